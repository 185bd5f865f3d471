/-
  AllExact holds: for every input the call returns true, and the arguments read as before. No condition.
-/
import Derived.Test.YtmhmengbhdaodaaPzB
import Derived.Test.YtmhmengbhdaodaaFree
import Derived.Test.YtmhmengbhdaodaaWeigh
import Derived.Test.YtmhmengbhdaodaaLawKit
import Derived.Test.YtmhmengbhdaodaaInts
import Derived.Test.YtmhmengbhdaodaaDesk
import Derived.Deep.RegionHeld3
import Derived.Test.YtmhmengbhdaodaaEnds
import Derived.Test.YtmhmengbhdaodaaTop
import Derived.Test.YtmhmengbhdaodaaBoxes
import Derived.Test.YtmhmengbhdaodaaLift
import Derived.Test.YtmhmengbhdaodaaRow
import Derived.Test.YtmhmengbhdaodaaPut
import Derived.Test.YtmhmengbhdaodaaRefMore
import Derived.Test.YtmhmengbhdaodaaBox
import Derived.Test.YtmhmengbhdaodaaRows
import Derived.ProofKit
import Derived.OpenShut
import Derived.Carry
import Derived.Deep.Slices
import Derived.ChangeSlices
import Derived.JoinedOf
/-! The page's own All. -/
namespace Go.Proofs.Ytmhmengbhdaodaa
open Go.RowKit

theorem putG_all_none (l : List Tm) (t : Tm) : ∀ (b : Int) (pl : Bool), t.rightB = true → 0 ≤ b → (l.length : Int) + b < t.freeN → t.putG (gAll l) b pl = none := by
  induction t using Tm.ind with
  | h t ih =>
    intro b pl hr hb hf
    by_cases hk : t.k = 2
    · rw [t.putG_var _ _ _ hk]
      rw [t.freeN_eq, if_pos hk] at hf
      unfold gAll
      rw [if_neg (by omega), List.getElem?_eq_none (by omega)]
      rfl
    · rw [t.putG_node _ _ _ hk]
      rw [t.freeN_eq, if_neg hk] at hf
      obtain ⟨q, hq, hlt⟩ : ∃ q, ∃ h : q < t.kids.length, (l.length : Int) + b + bindsN t.k q < (t.kids[q]).freeN := by
        refine Classical.byContradiction fun hno => ?_
        have := frees_bound t.k ((l.length : Int) + b) (by omega) t.kids 0 (fun q hq => by
          rw [Nat.zero_add]
          by_cases h : (l.length : Int) + b + bindsN t.k q < (t.kids[q]).freeN
          · exact absurd ⟨q, hq, h⟩ hno
          · omega)
        omega
      have hbd := binds_range t.k q
      have hz := ih _ (List.getElem_mem hq) (b + bindsN t.k q) (pl || (t.k == 12 && q == 2)) (t.right_kids hr _ (List.getElem_mem hq)) (by omega) (by omega)
      rw [optK_stop hq hz]; rfl

set_option maxRecDepth 20000 in
set_option maxHeartbeats 4000000 in
theorem refAllT_any (t : Tm) (l : List Tm) (w : World) (s ls : Value) (hl : Lies w t.kids s) (hls : Lies w l ls) (hdt : t.deep ≤ 100000) (hdl : ∀ u ∈ l, u.deep ≤ 100000) : Calls Try.prog 20 #[tv t s, ls] w (GivesA (t.allB l) w) := by
  obtain ⟨a, cap, S, rfl, -⟩ := hl.out
  obtain ⟨la, lcap, LS, rfl, lc, lm, -, ln, lk⟩ := hls.out
  obtain ⟨du, hu1, hu2⟩ := under_term
  have hB := below_2 w (.cells #[.int .i64 t.k, .int .i64 t.i, .int .i64 t.j, .int .i64 t.n, .slice a t.kids.length cap] 24) (.cells #[.int .i64 0, .int .i64 0, .int .i64 0, .int .i64 0, .slice none 0 0] 24)
  obtain ⟨q0, q1⟩ := heap_2 w (.cells #[.int .i64 t.k, .int .i64 t.i, .int .i64 t.j, .int .i64 t.n, .slice a t.kids.length cap] 24) (.cells #[.int .i64 0, .int .i64 0, .int .i64 0, .int .i64 0, .slice none 0 0] 24)
  have HLT := Lib.hid hl
  have HLS := Lib.hid hls
  have LN := Lib.hid ln
  have LK := Lib.hid lk
  have HDL := Lib.hid hdl
  clear hl hls ln lk hdl
  unfold maxLen at lm
  unfold tv
  cases hr : t.rightB with
  | false =>
    have HA := Lib.hid (show t.allB l = none by unfold Tm.allB; rw [if_neg (by rw [hr]; simp)])
    go_enter Try.func20, Try.ntmps20
    go_wp2_with fail
    refine (refright_any t _ _ (HLT.out.keep hB)).mono ?_
    rw [hr]
    rintro e w3 ⟨rfl, hb3⟩
    have q3 := keep_block hb3 (block_lt q1) q1
    obtain ⟨z0, z1, z2, z3, z4⟩ := five_cells q3
    obtain ⟨f0, f1, f2, f3, f4⟩ := five_free q3
    have hb := hB.trans (hb3.mono hB.size)
    clear hb3 q0 q1 hB
    go_wp2
    (try simp only [Exit.inBlock, Exit.then])
    refine bodyPost_ret (results_cell_tmp rfl _ _ (w.heap.size + 1) _ _ _ du rfl (five_set q3) hu1 (by cases du <;> first | rfl | exact hu2) size_term) rfl ?_
    exact ⟨below_five hb (by omega) _ _ _ _ _, Or.inr ⟨HA.out, rfl⟩⟩
  | true =>
    have HR := Lib.hid hr
    go_enter Try.func20, Try.ntmps20
    go_wp2_with fail
    refine (refright_any t _ _ (HLT.out.keep hB)).mono ?_
    rw [hr]
    clear hr
    rintro e w2 ⟨rfl, hb2⟩
    have HB2 := Lib.hid (hB.trans (hb2.mono hB.size))
    have HQ0 := Lib.hid (keep_block hb2 (block_lt q0) q0)
    have HQ1 := Lib.hid (keep_block hb2 (block_lt q1) q1)
    obtain ⟨d0, d1, d2, d3, d4⟩ := five_cells HQ0.out
    clear hb2 q0 q1 hB
    go_wp2_with fail
    refine (reffree_any t _ _ (HLT.out.keep HB2.out) HR.out).mono ?_
    rintro e w3 ⟨rfl, hb3⟩
    have HB3 := Lib.hid (HB2.out.trans (hb3.mono HB2.out.size))
    have HP0 := Lib.hid (keep_block hb3 (block_lt HQ0.out) HQ0.out)
    have HP1 := Lib.hid (keep_block hb3 (block_lt HQ1.out) HQ1.out)
    have hs3 : w.heap.size + 1 < w3.heap.size := block_lt HP1.out
    clear hb3 d0 d1 d2 d3 d4 HQ0 HQ1 HB2
    by_cases hfr : (l.length : Int) < t.freeN
    · have e1 : decide ((l.length : Int) < t.freeN) = true := decide_eq_true hfr
      have HA := Lib.hid (show t.allB l = none by unfold Tm.allB; split; exact putG_all_none l t 0 _ HR.out (Int.le_refl 0) (by omega); rfl)
      obtain ⟨z0, z1, z2, z3, z4⟩ := five_cells HP1.out
      obtain ⟨f0, f1, f2, f3, f4⟩ := five_free HP1.out
      clear hfr
      go_wp2
      (try simp only [Exit.inBlock, Exit.then])
      refine bodyPost_ret (results_cell_tmp rfl _ _ (w.heap.size + 1) _ _ _ du rfl (five_set HP1.out) hu1 (by cases du <;> first | rfl | exact hu2) size_term) rfl ?_
      exact ⟨below_five HB3.out (by omega) _ _ _ _ _, Or.inr ⟨HA.out, rfl⟩⟩
    have e1 : decide ((l.length : Int) < t.freeN) = false := decide_eq_false hfr
    have HFR := Lib.hid (show t.freeN ≤ (l.length : Int) + 0 by omega)
    clear hfr
    have hk3 := kept_start w3
    go_wp2_with fail
    go_loopw [6] (fun iv wr => ∃ q : Nat, q ≤ l.length ∧ iv = .int .i64 q ∧ Hid (∀ k (h : k < l.length), k < q → mayB t l[k] = true) ∧ Kept w3 wr) (fun iv _ => l.length - (intOf iv).toNat)
    case atStart => exact ⟨0, Nat.zero_le _, rfl, fun k _ h => by omega, hk3⟩
    case round =>
      clear hk3
      obtain ⟨q, hq0, rfl, hmay, hkr⟩ := hrel
      have HMAY := Lib.hid hmay.out
      have t0 := keep_block hkr (block_lt HP0.out) HP0.out
      have t1 := keep_block hkr (block_lt HP1.out) HP1.out
      have hb0 : Below w.heap.size w wr := HB3.out.trans (Below.mono hkr HB3.out.size)
      have hsr : w3.heap.size ≤ wr.heap.size := Below.size hkr
      have hswr : w.heap.size < wr.heap.size := by omega
      have hswr1 : w.heap.size + 1 < wr.heap.size := by omega
      obtain ⟨d0, d1, d2, d3, d4⟩ := five_cells t0
      clear hmay
      by_cases hlt : q < l.length
      · obtain ⟨b, o, rfl, hx⟩ := LN.out q hlt
        have hy := hx.below hb0 hx.lt
        have hq := LK.out q hlt
        obtain ⟨a', cap', S', hS, -⟩ := hq.out
        rw [hS] at hy hq
        obtain ⟨u, hu⟩ : ∃ u, l[q] = u := ⟨_, rfl⟩
        rw [hu] at hy hq
        have HU := Lib.hid hu
        have hj1 : (q : Int) < (l.length : Int) := by omega
        have HTA := Lib.hid (HLT.out.keep hb0)
        have HUA := Lib.hid (hq.keep hb0)
        have HTC := Lib.hid (show Five wr w.heap.size t (.slice a t.kids.length cap) from five_cells t0)
        have HXC := Lib.hid hy
        have hk0 := kept_start wr
        have HT1 := Lib.hid t1
        obtain ⟨c0, c1, c2, c3, c4⟩ := hy
        clear hS hx hq hu t0 t1
        cases hmy : mayB t u with
        | false =>
          have HMY := Lib.hid hmy
          have HA := Lib.hid (show t.allB l = none by
            unfold Tm.allB
            rw [if_neg (fun h => by have := List.all_eq_true.1 h.2 u (by rw [← HU.out]; exact List.getElem_mem hlt); rw [hmy] at this; cases this)])
          clear hmy
          go_wp2_with fail
          refine wp_region_held_drew (S := fun w' => Kept wr w' ∧ w'.cell? ⟨w.heap.size, 0, none⟩ = some (.int .i64 t.k) ∧ w'.cell? ⟨w.heap.size, 1, none⟩ = some (.int .i64 t.i) ∧ w'.cell? ⟨w.heap.size, 2, none⟩ = some (.int .i64 t.j) ∧ w'.cell? ⟨w.heap.size, 3, none⟩ = some (.int .i64 t.n) ∧ w'.cell? ⟨w.heap.size, 4, none⟩ = some (.slice a t.kids.length cap) ∧ w'.cell? ⟨b, o + q * 5, none⟩ = some (.int .i64 u.k) ∧ w'.cell? ⟨b, o + q * 5 + 1, none⟩ = some (.int .i64 u.i) ∧ w'.cell? ⟨b, o + q * 5 + 2, none⟩ = some (.int .i64 u.j) ∧ w'.cell? ⟨b, o + q * 5 + 3, none⟩ = some (.int .i64 u.n) ∧ w'.cell? ⟨b, o + q * 5 + 4, none⟩ = some (.slice a' u.kids.length cap')) (by kernel_rfl) ?_ (fun hHeld => ?_)
          · (try dsimp only)
            (((with_reducible refine all_and ?_ HTC.out HXC.out); repeat (first | with_reducible assumption | with_reducible exact hk0 | with_reducible refine kept_drew ?_)))
          refine wpAnyH_take (i := 0) (oi := { dst := some 26, op := Go.Op.load 24 (Go.Operand.tmp 2), type := 24, pos := "ref.go:313", after := #[], guard := none }) (v := ?_) rfl (by kernel_rfl) (by kernel_rfl) (by kernel_rfl) (fun _ _ _ h => h) (Or.inl ⟨by rfl, ?_⟩) (by assumption) ?_
          rotate_left 1
          · ((intro w hSw; (try dsimp only at hSw); go_simp) <;> with_reducible rfl)
          (try simp only [Act.put, List.setIfInBounds_toArray, List.set_cons_zero, List.set_cons_succ])
          refine wpAnyH_take (i := 1) (oi := { dst := some 27, op := Go.Op.move (Go.Operand.tmp 1), type := 22, pos := "ref.go:313", after := #[], guard := none }) (v := ?_) rfl (by kernel_rfl) (by kernel_rfl) (by kernel_rfl) (fun _ _ _ h => h) (Or.inl ⟨by rfl, ?_⟩) (by assumption) ?_
          rotate_left 1
          · ((intro w hSw; (try dsimp only at hSw); go_simp) <;> with_reducible rfl)
          (try simp only [Act.put, List.setIfInBounds_toArray, List.set_cons_zero, List.set_cons_succ])
          refine wpAnyH_take (i := 2) (oi := { dst := some 28, op := Go.Op.move (Go.Operand.tmp 6), type := 3, pos := "ref.go:313", after := #[], guard := none }) (v := ?_) rfl (by kernel_rfl) (by kernel_rfl) (by kernel_rfl) (fun _ _ _ h => h) (Or.inl ⟨by rfl, ?_⟩) (by assumption) ?_
          rotate_left 1
          · ((intro w hSw; (try dsimp only at hSw); go_simp) <;> with_reducible rfl)
          (try simp only [Act.put, List.setIfInBounds_toArray, List.set_cons_zero, List.set_cons_succ])
          refine wpAnyH_take (i := 3) (oi := { dst := some 29, op := Go.Op.indexAddr 22 (Go.Operand.tmp 27) (Go.Operand.tmp 28), type := 0, pos := "ref.go:313", after := #[{ on := 1, ground := Go.Ground.data }, { on := 2, ground := Go.Ground.data }], guard := none }) (v := ?_) rfl (by kernel_rfl) (by kernel_rfl) (by kernel_rfl) (fun _ _ _ h => h) (Or.inl ⟨by rfl, ?_⟩) (by assumption) ?_
          rotate_left 1
          · ((intro w hSw; (try dsimp only at hSw); go_simp) <;> with_reducible rfl)
          (try simp only [Act.put, List.setIfInBounds_toArray, List.set_cons_zero, List.set_cons_succ])
          refine wpAnyH_take (i := 4) (oi := { dst := some 30, op := Go.Op.load 24 (Go.Operand.tmp 29), type := 24, pos := "ref.go:313", after := #[{ on := 3, ground := Go.Ground.data }], guard := none }) (v := ?_) rfl (by kernel_rfl) (by kernel_rfl) (by kernel_rfl) (fun _ _ _ h => h) (Or.inl ⟨by rfl, ?_⟩) (by assumption) ?_
          rotate_left 1
          · ((intro w hSw; (try dsimp only at hSw); go_simp) <;> with_reducible rfl)
          (try simp only [Act.put, List.setIfInBounds_toArray, List.set_cons_zero, List.set_cons_succ])
          refine wpAnyH_ready (rs := [5]) (by kernel_rfl) (by simp) ?_
          refine AllReadyH.cons (o := { dst := some 31, op := Go.Op.call { callee := Go.Callee.value (Go.Operand.func 35), args := #[Go.Operand.tmp 26, Go.Operand.tmp 30], argTypes := #[24, 24] }, type := 4, pos := "ref.go:313", after := #[{ on := 0, ground := Go.Ground.data }, { on := 4, ground := Go.Ground.data }], guard := none }) rfl (fun K hK => ?_) ?_
          · go_simp
            (go_at_call 35; have hS := hHeld.1; refine (refmay_any t u _ _ _ (HTA.out.keep hS) (HUA.out.keep hS)).mono ?_; rw [HMY.out]; rintro e w6 ⟨rfl, hbn⟩; have hh6 := kept_call hS hbn; clear hbn hS)
            refine hK.out _ _ ?_ (fun hHeld => ?_)
            · (try dsimp only)
              (((with_reducible refine all_and ?_ HTC.out HXC.out); repeat (first | with_reducible assumption | with_reducible exact hk0 | with_reducible refine kept_drew ?_)))
            clear hK K
            (try simp only [Act.put, List.setIfInBounds_toArray, List.set_cons_zero, List.set_cons_succ])
            refine wpAnyH_take (i := 6) (oi := { dst := some 32, op := Go.Op.unOp Go.UnOp.not 4 (Go.Operand.tmp 31), type := 4, pos := "ref.go:313", after := #[{ on := 5, ground := Go.Ground.data }], guard := none }) (v := ?_) rfl (by kernel_rfl) (by kernel_rfl) (by kernel_rfl) (fun _ _ _ h => h) (Or.inl ⟨by rfl, ?_⟩) (by assumption) ?_
            rotate_left 1
            · ((intro w hSw; (try dsimp only at hSw); go_simp) <;> with_reducible rfl)
            (try simp only [Act.put, List.setIfInBounds_toArray, List.set_cons_zero, List.set_cons_succ])
            refine wpAnyH_done (by kernel_rfl) ?_ _
            have hkk : Kept w3 w6 := hkr.trans (Below.mono hHeld.1 hsr)
            have t6 := keep_block hkk (block_lt HP1.out) HP1.out
            obtain ⟨z0, z1, z2, z3, z4⟩ := five_cells t6
            obtain ⟨f0, f1, f2, f3, f4⟩ := five_free t6
            have hb := HB3.out.trans (Below.mono hkk HB3.out.size)
            go_wp2
            (try simp only [Exit.inBlock, Exit.then])
            refine bodyPost_ret (results_cell_tmp rfl _ _ (w.heap.size + 1) _ _ _ du rfl (five_set t6) hu1 (by cases du <;> first | rfl | exact hu2) size_term) rfl ?_
            exact ⟨below_five hb (by omega) _ _ _ _ _, Or.inr ⟨HA.out, rfl⟩⟩
          exact AllReadyH.nil
        | true =>
          have HMY := Lib.hid hmy
          clear hmy
          go_wp2_with fail
          refine wp_region_held_drew (S := fun w' => Kept wr w' ∧ w'.cell? ⟨w.heap.size, 0, none⟩ = some (.int .i64 t.k) ∧ w'.cell? ⟨w.heap.size, 1, none⟩ = some (.int .i64 t.i) ∧ w'.cell? ⟨w.heap.size, 2, none⟩ = some (.int .i64 t.j) ∧ w'.cell? ⟨w.heap.size, 3, none⟩ = some (.int .i64 t.n) ∧ w'.cell? ⟨w.heap.size, 4, none⟩ = some (.slice a t.kids.length cap) ∧ w'.cell? ⟨b, o + q * 5, none⟩ = some (.int .i64 u.k) ∧ w'.cell? ⟨b, o + q * 5 + 1, none⟩ = some (.int .i64 u.i) ∧ w'.cell? ⟨b, o + q * 5 + 2, none⟩ = some (.int .i64 u.j) ∧ w'.cell? ⟨b, o + q * 5 + 3, none⟩ = some (.int .i64 u.n) ∧ w'.cell? ⟨b, o + q * 5 + 4, none⟩ = some (.slice a' u.kids.length cap')) (by kernel_rfl) ?_ (fun hHeld => ?_)
          · (try dsimp only)
            (((with_reducible refine all_and ?_ HTC.out HXC.out); repeat (first | with_reducible assumption | with_reducible exact hk0 | with_reducible refine kept_drew ?_)))
          refine wpAnyH_take (i := 0) (oi := { dst := some 26, op := Go.Op.load 24 (Go.Operand.tmp 2), type := 24, pos := "ref.go:313", after := #[], guard := none }) (v := ?_) rfl (by kernel_rfl) (by kernel_rfl) (by kernel_rfl) (fun _ _ _ h => h) (Or.inl ⟨by rfl, ?_⟩) (by assumption) ?_
          rotate_left 1
          · ((intro w hSw; (try dsimp only at hSw); go_simp) <;> with_reducible rfl)
          (try simp only [Act.put, List.setIfInBounds_toArray, List.set_cons_zero, List.set_cons_succ])
          refine wpAnyH_take (i := 1) (oi := { dst := some 27, op := Go.Op.move (Go.Operand.tmp 1), type := 22, pos := "ref.go:313", after := #[], guard := none }) (v := ?_) rfl (by kernel_rfl) (by kernel_rfl) (by kernel_rfl) (fun _ _ _ h => h) (Or.inl ⟨by rfl, ?_⟩) (by assumption) ?_
          rotate_left 1
          · ((intro w hSw; (try dsimp only at hSw); go_simp) <;> with_reducible rfl)
          (try simp only [Act.put, List.setIfInBounds_toArray, List.set_cons_zero, List.set_cons_succ])
          refine wpAnyH_take (i := 2) (oi := { dst := some 28, op := Go.Op.move (Go.Operand.tmp 6), type := 3, pos := "ref.go:313", after := #[], guard := none }) (v := ?_) rfl (by kernel_rfl) (by kernel_rfl) (by kernel_rfl) (fun _ _ _ h => h) (Or.inl ⟨by rfl, ?_⟩) (by assumption) ?_
          rotate_left 1
          · ((intro w hSw; (try dsimp only at hSw); go_simp) <;> with_reducible rfl)
          (try simp only [Act.put, List.setIfInBounds_toArray, List.set_cons_zero, List.set_cons_succ])
          refine wpAnyH_take (i := 3) (oi := { dst := some 29, op := Go.Op.indexAddr 22 (Go.Operand.tmp 27) (Go.Operand.tmp 28), type := 0, pos := "ref.go:313", after := #[{ on := 1, ground := Go.Ground.data }, { on := 2, ground := Go.Ground.data }], guard := none }) (v := ?_) rfl (by kernel_rfl) (by kernel_rfl) (by kernel_rfl) (fun _ _ _ h => h) (Or.inl ⟨by rfl, ?_⟩) (by assumption) ?_
          rotate_left 1
          · ((intro w hSw; (try dsimp only at hSw); go_simp) <;> with_reducible rfl)
          (try simp only [Act.put, List.setIfInBounds_toArray, List.set_cons_zero, List.set_cons_succ])
          refine wpAnyH_take (i := 4) (oi := { dst := some 30, op := Go.Op.load 24 (Go.Operand.tmp 29), type := 24, pos := "ref.go:313", after := #[{ on := 3, ground := Go.Ground.data }], guard := none }) (v := ?_) rfl (by kernel_rfl) (by kernel_rfl) (by kernel_rfl) (fun _ _ _ h => h) (Or.inl ⟨by rfl, ?_⟩) (by assumption) ?_
          rotate_left 1
          · ((intro w hSw; (try dsimp only at hSw); go_simp) <;> with_reducible rfl)
          (try simp only [Act.put, List.setIfInBounds_toArray, List.set_cons_zero, List.set_cons_succ])
          refine wpAnyH_ready (rs := [5]) (by kernel_rfl) (by simp) ?_
          refine AllReadyH.cons (o := { dst := some 31, op := Go.Op.call { callee := Go.Callee.value (Go.Operand.func 35), args := #[Go.Operand.tmp 26, Go.Operand.tmp 30], argTypes := #[24, 24] }, type := 4, pos := "ref.go:313", after := #[{ on := 0, ground := Go.Ground.data }, { on := 4, ground := Go.Ground.data }], guard := none }) rfl (fun K hK => ?_) ?_
          · go_simp
            (go_at_call 35; have hS := hHeld.1; refine (refmay_any t u _ _ _ (HTA.out.keep hS) (HUA.out.keep hS)).mono ?_; rw [HMY.out]; rintro e w6 ⟨rfl, hbn⟩; have hh6 := kept_call hS hbn; clear hbn hS)
            refine hK.out _ _ ?_ (fun hHeld => ?_)
            · (try dsimp only)
              (((with_reducible refine all_and ?_ HTC.out HXC.out); repeat (first | with_reducible assumption | with_reducible exact hk0 | with_reducible refine kept_drew ?_)))
            clear hK K
            (try simp only [Act.put, List.setIfInBounds_toArray, List.set_cons_zero, List.set_cons_succ])
            refine wpAnyH_take (i := 6) (oi := { dst := some 32, op := Go.Op.unOp Go.UnOp.not 4 (Go.Operand.tmp 31), type := 4, pos := "ref.go:313", after := #[{ on := 5, ground := Go.Ground.data }], guard := none }) (v := ?_) rfl (by kernel_rfl) (by kernel_rfl) (by kernel_rfl) (fun _ _ _ h => h) (Or.inl ⟨by rfl, ?_⟩) (by assumption) ?_
            rotate_left 1
            · ((intro w hSw; (try dsimp only at hSw); go_simp) <;> with_reducible rfl)
            (try simp only [Act.put, List.setIfInBounds_toArray, List.set_cons_zero, List.set_cons_succ])
            refine wpAnyH_done (by kernel_rfl) ?_ _
            have hkk : Kept w3 w6 := hkr.trans (Below.mono hHeld.1 hsr)
            go_wp2
            go_roundw
            case rel => exact ⟨q + 1, hlt, by go_num, fun k hk hkq => by
              by_cases e : k = q
              · subst e; rw [HU.out]; exact HMY.out
              · exact HMAY.out k hk (by omega), hkk⟩
            case measure => simp [intOf]; omega
          exact AllReadyH.nil
      · have : q = l.length := by omega
        subst this
        have hall : l.all (mayB t) = true := by
          rw [List.all_eq_true]
          intro x hx
          obtain ⟨k, hk, rfl⟩ := List.getElem_of_mem hx
          exact HMAY.out k hk hk
        obtain ⟨R, hRR⟩ : ∃ R, t.putG (gAll l) 0 (decide (12 < t.k)) = R := ⟨_, rfl⟩
        have HALL := Lib.hid (show t.allB l = R by unfold Tm.allB; rw [if_pos ⟨HR.out, hall⟩, hRR])
        have HUR := Lib.hid (show ∀ x ∈ l, x.rightB = true from fun x hx => may_right (List.all_eq_true.1 hall x hx))
        have CP := refall_any l HUR.out HDL.out t 0 false wr _ _ (HLT.out.keep hb0) (HLS.out.keep hb0) HR.out (Int.le_refl 0) (by omega) HFR.out
        rw [Bool.false_or, hRR] at CP
        have HB0 := Lib.hid hb0
        have HT1 := Lib.hid t1
        clear hall hRR hkr t0 t1 hb0
        go_wp2_with fail
        refine CP.mono ?_
        clear CP
        rintro e w5 ⟨x, xa, xn, xc, ok, rfl, hb5, hans⟩
        have HANS := Lib.hid hans
        have q5 := keep_block hb5 (block_lt HT1.out) HT1.out
        have hs5 : w.heap.size + 1 < w5.heap.size := block_lt q5
        obtain ⟨z0, z1, z2, z3, z4⟩ := five_cells q5
        obtain ⟨f0, f1, f2, f3, f4⟩ := five_free q5
        have hb := HB0.out.trans (hb5.mono HB0.out.size)
        have hs0 := HB0.out.size
        clear hans hb5 d0 d1 d2 d3 d4
        rcases HANS.out with ⟨rfl, rfl, rfl, h3⟩ | ⟨rfl, rfl⟩
        · go_wp2
          (try simp only [Exit.inBlock, Exit.then])
          refine bodyPost_ret (results_cell_tmp rfl _ _ (w.heap.size + 1) _ _ _ du rfl (five_alloc q5 _ _ _ _ _ _) hu1 (by cases du <;> first | rfl | exact hu2) size_term) rfl ?_
          exact ⟨below_five_alloc hb hb.size (by omega) _ _ _ _ _ _, Or.inl ⟨x, _, HALL.out, rfl, liesP_fives_alloc h3 hswr1 (by omega) _ _ _ _ _ _⟩⟩
        · go_wp2
          (try simp only [Exit.inBlock, Exit.then])
          refine bodyPost_ret (results_cell_tmp rfl _ _ (w.heap.size + 1) _ _ _ du rfl (five_alloc q5 _ _ _ _ _ _) hu1 (by cases du <;> first | rfl | exact hu2) size_term) rfl ?_
          exact ⟨below_five_alloc hb hb.size (by omega) _ _ _ _ _ _, Or.inr ⟨HALL.out, rfl⟩⟩
end Go.Proofs.Ytmhmengbhdaodaa

/-! transhipkeep.Greats. -/
namespace Go.Proofs.Ytmhmengbhdaodaa
open Go.RowKit

def NotGreats (l : List Tm) (w : World) (e : Ending) (w' : World) : Prop :=
  ∃ g : Bool, e = .returned (.bool g) ∧ (g = false → l.length ≤ 120 ∧ ∀ u ∈ l, u.deep ≤ 100000) ∧ Below w.heap.size w w'

set_option maxHeartbeats 1000000 in
theorem greats_any (l : List Tm) (w : World) (ls : Value) (hl : Lies w l ls) :
    Calls Try.prog 18 #[ls, .int .i64 120] w (NotGreats l w) := by
  obtain ⟨a, cap, S, rfl, hc, hm, -, hn, hk⟩ := hl.out
  unfold maxLen at hm
  have HN := Lib.hid hn
  have HK := Lib.hid hk
  clear hl hn hk
  go_enter Try.func18, Try.ntmps18
  by_cases hlen : 120 < l.length
  · have e1 : decide ((120 : Int) < (l.length : Int)) = true := decide_eq_true (by omega)
    have e2 : decide (120 < l.length) = true := decide_eq_true hlen
    go_wp2
    go_ret
    exact ⟨true, rfl, (fun h => by cases h), Below.refl _ _⟩
  have e1 : decide ((120 : Int) < (l.length : Int)) = false := decide_eq_false (by omega)
  have e2 : decide (120 < l.length) = false := decide_eq_false hlen
  go_wp2
  go_loopw [5, 6] (fun nv iv wr => ∃ (k : Nat) (n : Int), k ≤ l.length ∧ iv = .int .i64 k ∧ nv = .int .i64 n ∧ 0 ≤ n ∧ n ≤ 121 ∧ Hid (n ≤ 120 → ∀ j (h : j < l.length), j < k → (l[j]).deep ≤ 201) ∧ Kept w wr) (fun _ i _ => l.length - (intOf i).toNat)
  case atStart => exact ⟨0, 0, Nat.zero_le _, rfl, rfl, by omega, by omega, fun _ j _ h => by omega, kept_start _⟩
  case round =>
    obtain ⟨k, n, hk, rfl, rfl, hn1, hn2, hrel, hb⟩ := hrel
    by_cases hlt : k < l.length
    · by_cases hnm : n ≤ 120
      · obtain ⟨b, o, rfl, hx⟩ := HN.out k hlt
        obtain ⟨c0, c1, c2, c3, c4⟩ := hx.below hb hx.lt
        have hq := HK.out k hlt
        obtain ⟨a', cap', S', hS, -⟩ := hq.out
        rw [hS] at c4 hq
        have HQ := Lib.hid (hq.keep hb)
        clear hS hq
        go_wp2_with fail
        refine (weigh_any l[k] _ _ _ _ HQ.out (by omega) (by omega) (by omega) (by omega)).mono ?_
        rintro e w' ⟨r, rfl, hr1, hr2, hr3, hb'⟩
        have HR3 := Lib.hid hr3
        have HB' := kept_call hb hb'
        clear hb' hb hr3 c0 c1 c2 c3 c4
        go_wp2
        go_roundw
        case rel =>
          refine ⟨k + 1, n + r, by omega, by go_num, rfl, by omega, by omega, ?_, HB'⟩
          intro hle j hj hjk
          by_cases e : j = k
          · subst e
            obtain ⟨-, e4⟩ := HR3.out (by omega)
            omega
          · exact hrel.out hnm j hj (by omega)
        case measure => simp [intOf]; omega
      · go_wp2
        go_ret
        exact ⟨_, rfl, fun h => absurd h (by simp <;> omega), hb⟩
    · have : k = l.length := by omega
      subst this
      go_wp2
      all_goals go_ret
      all_goals
        refine ⟨_, rfl, fun h => ⟨by omega, fun u hu => ?_⟩, hb⟩
        have hle : n ≤ 120 := by simpa using h
        obtain ⟨j, hj, rfl⟩ := List.getElem_of_mem hu
        have := hrel.out hle j hj hj
        omega
end Go.Proofs.Ytmhmengbhdaodaa

/-! lift.each: a term's copy, its variables moved as a function says. -/
namespace Go.Proofs.Ytmhmengbhdaodaa
open Go.RowKit

end Go.Proofs.Ytmhmengbhdaodaa

/-! lift.Rename. -/
namespace Go.Proofs.Ytmhmengbhdaodaa
open Go.RowKit

end Go.Proofs.Ytmhmengbhdaodaa

/-! The layer's own sentence, transhiplaw05.wakes, is true. -/
namespace Go.Proofs.Ytmhmengbhdaodaa
open Go.RowKit

def wake5 : Tm := .mk 14 0 0 0 [.mk 1 0 0 0 [], .mk 15 0 0 0 [.mk 2 0 0 0 [], .mk 2 1 0 0 []]]
def wake5w (w : World) : World := ((w.alloc (.cells #[.int .i64 2, .int .i64 0, .int .i64 0, .int .i64 0, .slice none 0 0, .int .i64 2, .int .i64 1, .int .i64 0, .int .i64 0, .slice none 0 0] 24)).alloc (.cells #[.int .i64 1, .int .i64 0, .int .i64 0, .int .i64 0, .slice none 0 0, .int .i64 15, .int .i64 0, .int .i64 0, .int .i64 0, .slice (some ⟨w.heap.size, 0, none⟩) 2 2] 24)).alloc (.cells #[.int .i64 14, .int .i64 0, .int .i64 0, .int .i64 0, .slice (some ⟨w.heap.size + 1, 0, none⟩) 2 2] 24)
theorem wake5_heap (w : World) : (wake5w w).heap[w.heap.size]? = some (.cells #[.int .i64 2, .int .i64 0, .int .i64 0, .int .i64 0, .slice none 0 0, .int .i64 2, .int .i64 1, .int .i64 0, .int .i64 0, .slice none 0 0] 24) ∧ (wake5w w).heap[w.heap.size + 1]? = some (.cells #[.int .i64 1, .int .i64 0, .int .i64 0, .int .i64 0, .slice none 0 0, .int .i64 15, .int .i64 0, .int .i64 0, .int .i64 0, .slice (some ⟨w.heap.size, 0, none⟩) 2 2] 24) ∧ (wake5w w).heap[w.heap.size + 2]? = some (.cells #[.int .i64 14, .int .i64 0, .int .i64 0, .int .i64 0, .slice (some ⟨w.heap.size + 1, 0, none⟩) 2 2] 24) := by
  obtain ⟨h0, h1, h2, -⟩ := heap_three w (.cells #[.int .i64 2, .int .i64 0, .int .i64 0, .int .i64 0, .slice none 0 0, .int .i64 2, .int .i64 1, .int .i64 0, .int .i64 0, .slice none 0 0] 24) (.cells #[.int .i64 1, .int .i64 0, .int .i64 0, .int .i64 0, .slice none 0 0, .int .i64 15, .int .i64 0, .int .i64 0, .int .i64 0, .slice (some ⟨w.heap.size, 0, none⟩) 2 2] 24) (.cells #[.int .i64 14, .int .i64 0, .int .i64 0, .int .i64 0, .slice (some ⟨w.heap.size + 1, 0, none⟩) 2 2] 24)
  exact ⟨h0, h1, h2⟩
theorem wake5_lies (w : World) : Lies (wake5w w) wake5.kids (.slice (some ⟨w.heap.size + 1, 0, none⟩) 2 2) := by
  obtain ⟨h0, h1, -⟩ := wake5_heap w
  have c0 := fun q => cell_of_row (wake5w w) w.heap.size q _ _ _ h0
  have c1 := fun q => cell_of_row (wake5w w) (w.heap.size + 1) q _ _ _ h1
  have hin : Lies (wake5w w) [.mk 2 0 0 0 [], .mk 2 1 0 0 []] (.slice (some ⟨w.heap.size, 0, none⟩) 2 2) :=
    Row.lies (ps := [(.mk 2 0 0 0 [], .slice none 0 0), (.mk 2 1 0 0 [], .slice none 0 0)]) ⟨⟨by rw [c0]; rfl, by rw [c0]; rfl, by rw [c0]; rfl, by rw [c0]; rfl, by rw [c0]; rfl⟩, small_fine _ _ _ (small_I64 2 (by decide)) (small_I64 0 (by decide)), lies_nil _, ⟨by rw [c0]; rfl, by rw [c0]; rfl, by rw [c0]; rfl, by rw [c0]; rfl, by rw [c0]; rfl⟩, small_fine _ _ _ (small_I64 2 (by decide)) (small_I64 1 (by decide)), lies_nil _, trivial⟩ (by decide) (by decide)
  exact Row.lies (ps := [(.mk 1 0 0 0 [], .slice none 0 0), (.mk 15 0 0 0 [.mk 2 0 0 0 [], .mk 2 1 0 0 []], .slice (some ⟨w.heap.size, 0, none⟩) 2 2)]) ⟨⟨by rw [c1]; rfl, by rw [c1]; rfl, by rw [c1]; rfl, by rw [c1]; rfl, by rw [c1]; rfl⟩, small_fine _ _ _ (small_I64 1 (by decide)) (small_I64 0 (by decide)), lies_nil _, ⟨by rw [c1]; rfl, by rw [c1]; rfl, by rw [c1]; rfl, by rw [c1]; rfl, by rw [c1]; rfl⟩, small_fine _ _ _ (small_I64 15 (by decide)) (small_I64 0 (by decide)), hin, trivial⟩ (Nat.le_refl 2) (by decide)
theorem wake5_below (w : World) : Below w.heap.size w (wake5w w) := below_three _ _ _ _

/-- What wakes asks of a result of this shape: its second kid's list, and that list's numbers. -/
theorem deep_cells {w : World} {P : Nat → Prop} {k i j : Int} {z : Tm} {k' i' j' n' : Int} {x y : Tm} {s : Value} (h : LiesP w P (Tm.mk 14 k i j [z, .mk k' i' j' n' [x, y]]).kids s) :
    ∃ b cap b' cap', s = .slice (some ⟨b, 0, none⟩) 2 cap ∧ w.cell? ⟨b, 9, none⟩ = some (.slice (some ⟨b', 0, none⟩) 2 cap') ∧ w.cell? ⟨b', 1, none⟩ = some (.int .i64 x.i) ∧ w.cell? ⟨b', 6, none⟩ = some (.int .i64 y.i) := by
  cases h with
  | mk _ a cap S hc hm hf hn hk =>
    obtain ⟨b, rfl, -, hx⟩ := hn 1 (by show 1 < 2; omega)
    have h2 := hk 1 (by show 1 < 2; omega)
    have h9 := hx.c4
    revert h9
    generalize S 1 = s2 at h2
    intro h9
    cases h2 with
    | mk _ a' cap' S' hc' hm' hf' hn' hk' =>
      obtain ⟨b', rfl, -, y0⟩ := hn' 0 (by show 0 < 2; omega)
      obtain ⟨b2, e2, -, y1⟩ := hn' 1 (by show 1 < 2; omega)
      obtain rfl : b' = b2 := by simpa using e2
      exact ⟨b, cap, b', cap', rfl, h9, y0.c1, y1.c1⟩

end Go.Proofs.Ytmhmengbhdaodaa

/-! The layer's own sentence, transhiplaw07.wakes, is true; stands. -/
namespace Go.Proofs.Ytmhmengbhdaodaa
open Go.RowKit

theorem v7_any (i : Int) (w : World) : Calls Try.prog 23 #[.int .i64 i] w fun e w' => e = .returned (.agg #[.int .i64 2, .int .i64 i, .int .i64 0, .int .i64 0, .slice none 0 0]) ∧ Below w.heap.size w w' := by
  obtain ⟨du, hu1, hu2⟩ := under_term
  go_enter Try.func23, Try.ntmps23
  go_wp2
  refine bodyPost_ret (results_cell_row rfl _ _ w.heap.size _ _ _ du rfl (alloc_new _ _) hu1 (by cases du <;> first | rfl | exact hu2) size_term) rfl ?_
  exact ⟨rfl, (Below.refl _ _).alloc (Nat.le_refl _) _⟩

def wake7 : Tm := .mk 15 0 0 0 [varT 0, varT 1]
def wake7s : Tm := .mk 1 3 0 0 []
theorem wake7_lies (w : World) : Lies (w.alloc (.cells #[.int .i64 2, .int .i64 0, .int .i64 0, .int .i64 0, .slice none 0 0, .int .i64 2, .int .i64 1, .int .i64 0, .int .i64 0, .slice none 0 0] 24)) wake7.kids (.slice (some ⟨w.heap.size, 0, none⟩) 2 2) := by
  have c0 := fun q => cell_of_row (w.alloc (.cells #[.int .i64 2, .int .i64 0, .int .i64 0, .int .i64 0, .slice none 0 0, .int .i64 2, .int .i64 1, .int .i64 0, .int .i64 0, .slice none 0 0] 24)) w.heap.size q _ _ _ (alloc_new _ _)
  exact Row.lies (ps := [(.mk 2 0 0 0 [], .slice none 0 0), (.mk 2 1 0 0 [], .slice none 0 0)]) ⟨⟨by rw [c0]; rfl, by rw [c0]; rfl, by rw [c0]; rfl, by rw [c0]; rfl, by rw [c0]; rfl⟩, small_fine _ _ _ (small_I64 2 (by decide)) (small_I64 0 (by decide)), lies_nil _, ⟨by rw [c0]; rfl, by rw [c0]; rfl, by rw [c0]; rfl, by rw [c0]; rfl, by rw [c0]; rfl⟩, small_fine _ _ _ (small_I64 2 (by decide)) (small_I64 1 (by decide)), lies_nil _, trivial⟩ (by decide) (by decide)

theorem two_kids {w : World} {P : Nat → Prop} {x y : Tm} {s : Value} (h : LiesP w P [x, y] s) : ∃ (a : Option Addr) (cap b : Nat), s = .slice a 2 cap ∧ a = some ⟨b, 0, none⟩ ∧ w.cell? ⟨b, 0, none⟩ = some (.int .i64 x.k) ∧ w.cell? ⟨b, 1, none⟩ = some (.int .i64 x.i) ∧ w.cell? ⟨b, 5, none⟩ = some (.int .i64 y.k) ∧ w.cell? ⟨b, 6, none⟩ = some (.int .i64 y.i) := by
  cases h with
  | mk l a cap S hc hm hf hn hk =>
    obtain ⟨b, ha, -, n0⟩ := hn 0 (by simp)
    subst ha
    obtain ⟨b', ha', -, n1⟩ := hn 1 (by simp)
    cases ha'
    exact ⟨_, cap, b, rfl, rfl, n0.c0, n0.c1, n1.c0, n1.c1⟩

set_option maxRecDepth 20000 in
set_option maxHeartbeats 2000000 in
theorem wakes7_any (w : World) : Calls Try.prog 17 #[] w fun e w' => e = .returned (.bool true) ∧ Below w.heap.size w w' := by
  go_enter Try.func17, Try.ntmps17
  go_wp2_with fail
  refine (v7_any _ _).mono ?_
  rintro e wa ⟨rfl, hba⟩
  go_wp2_with fail
  refine (v7_any _ _).mono ?_
  rintro e wb ⟨rfl, hbb⟩
  have hB := hba.trans (hbb.mono hba.size)
  have hL := wake7_lies wb
  have hBw : Below wb.heap.size wb (wb.alloc (.cells #[.int .i64 2, .int .i64 0, .int .i64 0, .int .i64 0, .slice none 0 0, .int .i64 2, .int .i64 1, .int .i64 0, .int .i64 0, .slice none 0 0] 24)) := (Below.refl _ _).alloc (Nat.le_refl _) _
  clear hba hbb
  have hc := put_any wake7 wake7s _ _ (.slice none 0 0) hL (lies_nil _) (by decide) (by decide)
  rw [show wake7.putB wake7s = .mk 15 0 0 0 [.mk 1 3 0 0 [], varT 0] from by kernel_rfl] at hc
  go_wp2_with fail
  refine hc.mono ?_
  clear hc
  rintro e w3 ⟨s3, he, hl3, hb3⟩
  obtain ⟨a3, cap3, b3, hs3, ha3, p0, p1, p5, p6⟩ := two_kids hl3
  subst ha3
  subst hs3
  replace he : e = .returned (.agg #[.int .i64 15, .int .i64 0, .int .i64 0, .int .i64 0, .slice (some ⟨b3, 0, none⟩) 2 cap3]) := he
  subst he
  have hb4 : Below w3.heap.size w3 (w3.alloc (.cells #[.int .i64 15, .int .i64 0, .int .i64 0, .int .i64 0, .slice (some ⟨b3, 0, none⟩) 2 cap3] 24)) := (Below.refl _ _).alloc (Nat.le_refl _) _
  have hlt3 : b3 < w3.heap.size := World.block_lt_of_cell? _ _ p0
  have hB4 := hB.trans (((hBw.trans (hb3.mono hBw.size)).trans (hb4.mono (by have := hb3.size; have := hBw.size; omega))).mono hB.size)
  have HB4 := Lib.hid hB4
  clear hl3 hb3 hb4 hB hBw hL hB4
  go_wp2_with fail
  go_ret
  exact ⟨rfl, HB4.out⟩
end Go.Proofs.Ytmhmengbhdaodaa

/-! The walk of transhiplaw07.AllExact. -/
namespace Go.Proofs.Ytmhmengbhdaodaa
open Go.RowKit

theorem givesA_both {R : Option Tm} {w w' : World} {e : Ending} (h : GivesA R w e w') : ∃ s', e = .returned (.tuple #[tv (R.getD .zero) s', .bool R.isSome]) ∧ Lies w' (R.getD .zero).kids s' ∧ Below w.heap.size w w' := by
  obtain ⟨hb, ⟨u, s', rfl, he, hl⟩ | ⟨rfl, he⟩⟩ := h
  · exact ⟨s', he, hl.lies, hb⟩
  · exact ⟨_, he, (liesP_nil _ (fun _ => True)).lies, hb⟩

set_option maxRecDepth 20000 in
set_option maxHeartbeats 4000000 in
theorem allExact_any (t : Tm) (l : List Tm) (w : World) (s ls : Value) (hl : Lies w t.kids s) (hls : Lies w l ls) : Calls Try.prog 5 #[tv t s, ls] w fun e w' => e = .returned (.bool true) ∧ Below w.heap.size w w' := by
  obtain ⟨a, cap, S, rfl, -⟩ := hl.out
  obtain ⟨la, lcap, LS, rfl, -⟩ := hls.out
  have H0 := held_start w t (.slice a t.kids.length cap)
  have HL := Lib.hid hl
  have HS := Lib.hid hls
  unfold tv
  clear hl hls
  go_enter Try.func5, Try.ntmps5
  go_wp2_with fail
  refine (great_any t _ _ 120 (held_lies H0 HL.out) (by omega) (by omega)).mono ?_
  rintro e w1 ⟨g, rfl, hg, hb1⟩
  have H1 := held_call H0 hb1
  have HG := Lib.hid hg
  clear hg hb1 H0
  cases g with
  | true =>
    go_wp2
    go_ret
    exact ⟨rfl, held_below H1⟩
  | false =>
    have hz := (HG.out rfl).2
    have HT := Lib.hid (show t.deep ≤ 100000 by omega)
    clear HG hz
    go_wp2_with fail
    refine (greats_any l _ _ (HS.out.keep (held_below H1))).mono ?_
    rintro e w2 ⟨g, rfl, hg, hb2⟩
    have H2 := held_call H1 hb2
    have HG := Lib.hid hg
    clear hg hb2 H1
    cases g with
    | true =>
      go_wp2
      go_ret
      exact ⟨rfl, held_below H2⟩
    | false =>
      have HN := Lib.hid (show l.length ≤ 100000 by have := (HG.out rfl).1; omega)
      have HD := Lib.hid (HG.out rfl).2
      clear HG
      obtain ⟨X, B, hXB⟩ : ∃ X B, (∀ w e w', GivesA (t.allB l) w e w' → ∃ s', e = .returned (.tuple #[tv X s', .bool B]) ∧ Lies w' X.kids s' ∧ Below w.heap.size w w') := ⟨_, _, fun w e w' h => givesA_both h⟩
      have HXB := Lib.hid hXB
      clear hXB
      obtain ⟨d0, d1, d2, d3, d4⟩ := held_cells H2
      go_wp2_with fail
      refine (all_any t l _ _ _ (held_lies H2 HL.out) (HS.out.keep (held_below H2)) HT.out HD.out HN.out).mono ?_
      intro e w3 hg3
      obtain ⟨s3, rfl, hl3, hb3⟩ := HXB.out _ _ _ hg3
      obtain ⟨a3, cap3, S3, rfl, -⟩ := hl3.out
      have H3 := held_call H2 hb3
      have H4 := held_alloc H3 (.cells #[.int .i64 X.k, .int .i64 X.i, .int .i64 X.j, .int .i64 X.n, .slice a3 X.kids.length cap3] 24)
      have hqu := alloc_new w3 (.cells #[.int .i64 X.k, .int .i64 X.i, .int .i64 X.j, .int .i64 X.n, .slice a3 X.kids.length cap3] 24)
      have hlu : Lies (w3.alloc (.cells #[.int .i64 X.k, .int .i64 X.i, .int .i64 X.j, .int .i64 X.n, .slice a3 X.kids.length cap3] 24)) X.kids (.slice a3 X.kids.length cap3) := hl3.keep ((Below.refl _ _).alloc (Nat.le_refl _) _)
      have HQU := Lib.hid hqu
      have HLU := Lib.hid hlu
      clear d0 d1 d2 d3 d4 hg3 hb3 hl3 H2 H3 hqu hlu
      obtain ⟨d0, d1, d2, d3, d4⟩ := held_cells H4
      go_wp2_with fail
      refine (refAllT_any t l _ _ _ (held_lies H4 HL.out) (HS.out.keep (held_below H4)) HT.out HD.out).mono ?_
      intro e w5 hg5
      obtain ⟨s5, rfl, hl5, hb5⟩ := HXB.out _ _ _ hg5
      obtain ⟨a5, cap5, S5, rfl, -⟩ := hl5.out
      have H5 := held_call H4 hb5
      have hb6 : Below w5.heap.size w5 (w5.alloc (.cells #[.int .i64 X.k, .int .i64 X.i, .int .i64 X.j, .int .i64 X.n, .slice a5 X.kids.length cap5] 24)) := (Below.refl _ _).alloc (Nat.le_refl _) _
      have hq5 := keep_block hb5 (block_lt HQU.out) HQU.out
      have HLU6 := Lib.hid ((HLU.out.keep hb5).keep hb6)
      have HLW6 := Lib.hid (hl5.keep hb6)
      have HQ5 := Lib.hid (keep_block hb6 (block_lt hq5) hq5)
      have HBV := Lib.hid ((held_below H5).trans (hb6.mono (Below.size (held_below H5))))
      have hg3 : w3.heap.size < w5.heap.size := block_lt hq5
      obtain ⟨x0, x1, x2, x3, x4⟩ := five_cells hq5
      clear d0 d1 d2 d3 d4 hg5 hb5 hl5 H4 H5 hb6 hq5 HQU HLU
      go_wp2_with fail
      refine (keepsame_eq X _ _ _ HLU6.out HLW6.out).mono ?_
      rintro e w7 ⟨rfl, hb7⟩
      clear x0 x1 x2 x3 x4
      go_wp2_with fail
      refine (wakes7_any _).mono ?_
      rintro e w8 ⟨rfl, hb8⟩
      go_wp2
      go_ret
      have hb9 := kept_call hb7 hb8
      exact ⟨rfl, HBV.out.trans (Below.mono hb9 HBV.out.size)⟩
end Go.Proofs.Ytmhmengbhdaodaa

/-! A term that is handed in, opened: it is a tree that lies in the world. -/
namespace Go.Proofs.Ytmhmengbhdaodaa
open Go.ChangeShapes Go.WideShapes Go.ChangeAt Go.RowKit

theorem own : ownKnob Try.prog.godebug = none := by kernel_rfl
theorem cells_int : Try.prog.cellsOf 3 = 1 := by kernel_rfl
theorem cells_kids : Try.prog.cellsOf 22 = 1 := by kernel_rfl
theorem cells_term : Try.prog.cellsOf 24 = 5 := by kernel_rfl
theorem laidOut : laidOutB Try.prog = true := by kernel_rfl

instance instOpenTm : Inhabited (Tm × Value) := ⟨(.mk 0 0 0 0 [], .nilIface)⟩

theorem list5 {α : Type} {l : List α} (h : l.length = 5) : ∃ a b c d e, l = [a, b, c, d, e] := by
  match l, h with
  | [a, b, c, d, e], _ => exact ⟨a, b, c, d, e, rfl⟩

theorem wf_I64 {x : Int} (h : (Lit.int .i64 x).wf = true) : I64 x := by
  simp [Lit.wf] at h
  have hm : IntKind.i64.min = -9223372036854775808 := by decide
  rw [hm] at h
  exact h

set_option maxRecDepth 100000 in
theorem open_term {H : Type} {enc : TypeId × Value → H} {w : World} {base : Nat} {sp : Nat → Bool} {hd : Bool} : ∀ (fuel : Nat) (cs : List Value) (x : DataW H × List MemPlace),
    DataW.trod enc Try.prog w base sp hd fuel 24 cs = some x → ∃ (t : Tm) (s : Value), cs = [.int .i64 t.k, .int .i64 t.i, .int .i64 t.j, .int .i64 t.n, s] ∧ t.fine ∧ Lies w t.kids s := by
  intro fuel
  induction fuel using Nat.strongRecOn with
  | _ fuel ih =>
    intro cs x h
    obtain ⟨xs, n, rfl, rfl, hl, hlen, hf⟩ := DataW.trod_struct Try.underlying24 h
    rw [cells_term] at hl
    obtain ⟨v0, v1, v2, v3, v4, rfl⟩ := list5 hl
    obtain ⟨y0, y1, y2, y3, y4, rfl⟩ := list5 hlen
    have g0 := hf 0 _ rfl
    have g1 := hf 1 _ rfl
    have g2 := hf 2 _ rfl
    have g3 := hf 3 _ rfl
    have g4 := hf 4 _ rfl
    simp [cells_int, cells_kids] at g0 g1 g2 g3 g4
    obtain ⟨k, e0, -, w0⟩ := DataW.trod_int Try.underlying3 g0
    obtain ⟨i, e1, -, w1⟩ := DataW.trod_int Try.underlying3 g1
    obtain ⟨j, e2, -, w2⟩ := DataW.trod_int Try.underlying3 g2
    obtain ⟨m, e3, -, w3⟩ := DataW.trod_int Try.underlying3 g3
    simp at e0 e1 e2 e3
    subst e0 e1 e2 e3
    rcases DataW.trod_slice Try.underlying22 g4 with ⟨e4, -⟩ | ⟨a, len, cap, elems, rest, n', rfl, e4, -, hb, hlc, hm, hlen', hel, -, -⟩
    · simp at e4
      subst e4
      exact ⟨.mk k i j m [], _, rfl, ⟨wf_I64 w0, wf_I64 w1, wf_I64 w2, wf_I64 w3⟩, .mk [] none 0 (fun _ => .nilIface) (Nat.le_refl _) (by decide) (fun _ h => by cases h) (fun _ h => by cases h) (fun _ h => by cases h)⟩
    · simp at e4
      subst e4
      have key : ∀ i, i < len → ∃ p : Tm × Value, p.1.fine ∧ Lies w p.1.kids p.2 ∧ ∃ b o, a = ⟨b, o, none⟩ ∧ Node w b (o + i * 5) p.1 p.2 := by
        intro i hi
        have h1 := hel i hi
        rw [cells_term, List.getElem?_eq_getElem (by omega)] at h1
        obtain ⟨cs', h2, h3⟩ := Option.bind_eq_some_iff.1 h1
        obtain ⟨t, s, rfl, hfine, hlies⟩ := ih n' (by omega) _ _ h3
        obtain ⟨-, -, hcell⟩ := World.cells?_some h2
        have hs0 : a.spot = none := by
          have h1 := hel 0 (by omega)
          rw [cells_term, List.getElem?_eq_getElem (by omega)] at h1
          obtain ⟨cs0, h2, -⟩ := Option.bind_eq_some_iff.1 h1
          obtain ⟨-, hl0, hc0⟩ := World.cells?_some h2
          have c0 := hc0 0 (by omega)
          rw [List.getElem?_eq_getElem (by omega)] at c0
          simpa [Addr.add] using World.cell?_spot c0
        obtain ⟨b, o, spot⟩ := a
        simp only at hs0
        subst hs0
        refine ⟨(t, s), hfine, hlies, b, o, rfl, ?_⟩
        have hc : ∀ q, q < 5 → w.cell? ⟨b, o + i * 5 + q, none⟩ = [Value.int .i64 t.k, .int .i64 t.i, .int .i64 t.j, .int .i64 t.n, s][q]? := fun q hq => by
          have := hcell q hq
          rwa [add_plain, add_plain] at this
        exact ⟨hc 0 (by omega), hc 1 (by omega), hc 2 (by omega), hc 3 (by omega), hc 4 (by omega)⟩
      obtain ⟨f, hf'⟩ := Go.Deep.choose_lt (α := Tm × Value) (p := fun i p => p.1.fine ∧ Lies w p.1.kids p.2 ∧ ∃ b o, a = ⟨b, o, none⟩ ∧ Node w b (o + i * 5) p.1 p.2) key
      have hl5 : ((List.range len).map fun i => (f i).1).length = len := by simp
      refine ⟨.mk k i j m ((List.range len).map fun i => (f i).1), _, rfl, ⟨wf_I64 w0, wf_I64 w1, wf_I64 w2, wf_I64 w3⟩, ?_⟩
      have := Lies.mk (w := w) ((List.range len).map fun i => (f i).1) (some a) cap (fun i => (f i).2) (by simpa using hlc) hm
        (fun x hx => by
          obtain ⟨i, hi, rfl⟩ := List.mem_map.1 hx
          exact (hf' i (List.mem_range.1 hi)).1)
        (fun i hi => by
          obtain ⟨b, o, ha, hn⟩ := (hf' i (by simpa using hi)).2.2
          exact ⟨b, o, by rw [ha], by simpa using hn⟩)
        (fun i hi => by simpa using (hf' i (by simpa using hi)).2.1)
      rwa [hl5] at this
set_option maxRecDepth 100000 in
/-- The same for an argument. -/
theorem open_arg {H : Type} {enc : TypeId × Value → H} {W : World} {r : Reach} {b0 base : Nat} {sp : Nat → Bool} {hd : Bool} {v : Value} {d : DataW H} {p : List MemPlace} (hv : Value.okWide Try.prog W r b0 24 v)
    (h : DataW.Trod enc Try.prog W base sp hd 24 v d p) : ∃ (t : Tm) (s : Value), Lies W t.kids s ∧ v = tv t s := by
  obtain ⟨cs, rfl, hsz⟩ := okWide_struct Try.underlying24 hv
  obtain ⟨fuel, hf⟩ := h
  obtain ⟨t, s, hcs, -, hl⟩ := open_term fuel _ _ hf
  refine ⟨t, s, hl, ?_⟩
  have : cs.toList = [.int .i64 t.k, .int .i64 t.i, .int .i64 t.j, .int .i64 t.n, s] := by simpa [Value.cells] using hcs
  rw [show cs = #[.int .i64 t.k, .int .i64 t.i, .int .i64 t.j, .int .i64 t.n, s] from by cases cs; simp_all]

end Go.Proofs.Ytmhmengbhdaodaa

/-! A list of terms that is handed in, opened. -/
namespace Go.Proofs.Ytmhmengbhdaodaa
open Go.ChangeShapes Go.WideShapes Go.ChangeAt Go.RowKit

set_option maxRecDepth 100000 in
theorem open_argL {H : Type} {enc : TypeId × Value → H} {w : World} {r : Reach} {b0 base : Nat} {sp : Nat → Bool} {hd : Bool} {v : Value} {d : DataW H} {p : List MemPlace} (hv : Value.okWide Try.prog w r b0 22 v)
    (h : DataW.Trod enc Try.prog w base sp hd 22 v d p) : ∃ l : List Tm, Lies w l v := by
  obtain ⟨a0, len0, cap0, rfl⟩ := okWide_slice Try.underlying22 hv
  obtain ⟨fuel, hf⟩ := h
  rcases DataW.trod_slice Try.underlying22 hf with ⟨e4, -⟩ | ⟨a, len, cap, elems, rest, n', rfl, e4, -, hb, hlc, hm, hlen', hel, -, -⟩
  · simp [Value.cells] at e4
    obtain ⟨rfl, rfl, rfl⟩ := e4
    exact ⟨[], .mk [] none 0 (fun _ => .nilIface) (Nat.le_refl _) (by decide) (fun _ h => by cases h) (fun _ h => by cases h) (fun _ h => by cases h)⟩
  · simp [Value.cells] at e4
    obtain ⟨rfl, rfl, rfl⟩ := e4
    have key : ∀ i, i < len0 → ∃ p : Tm × Value, p.1.fine ∧ Lies w p.1.kids p.2 ∧ ∃ b o, a = ⟨b, o, none⟩ ∧ Node w b (o + i * 5) p.1 p.2 := by
      intro i hi
      have h1 := hel i hi
      rw [cells_term, List.getElem?_eq_getElem (by omega)] at h1
      obtain ⟨cs', h2, h3⟩ := Option.bind_eq_some_iff.1 h1
      obtain ⟨t, s, rfl, hfine, hlies⟩ := open_term n' _ _ h3
      obtain ⟨-, -, hcell⟩ := World.cells?_some h2
      have hs0 : a.spot = none := by
        have h1 := hel 0 (by omega)
        rw [cells_term, List.getElem?_eq_getElem (by omega)] at h1
        obtain ⟨cs0, h2, -⟩ := Option.bind_eq_some_iff.1 h1
        obtain ⟨-, hl0, hc0⟩ := World.cells?_some h2
        have c0 := hc0 0 (by omega)
        rw [List.getElem?_eq_getElem (by omega)] at c0
        simpa [Addr.add] using World.cell?_spot c0
      obtain ⟨b, o, spot⟩ := a
      simp only at hs0
      subst hs0
      refine ⟨(t, s), hfine, hlies, b, o, rfl, ?_⟩
      have hc : ∀ q, q < 5 → w.cell? ⟨b, o + i * 5 + q, none⟩ = [Value.int .i64 t.k, .int .i64 t.i, .int .i64 t.j, .int .i64 t.n, s][q]? := fun q hq => by
        have := hcell q hq
        rwa [add_plain, add_plain] at this
      exact ⟨hc 0 (by omega), hc 1 (by omega), hc 2 (by omega), hc 3 (by omega), hc 4 (by omega)⟩
    obtain ⟨f, hf'⟩ := Go.Deep.choose_lt (α := Tm × Value) (p := fun i p => p.1.fine ∧ Lies w p.1.kids p.2 ∧ ∃ b o, a = ⟨b, o, none⟩ ∧ Node w b (o + i * 5) p.1 p.2) key
    have hl5 : ((List.range len0).map fun i => (f i).1).length = len0 := by simp
    refine ⟨(List.range len0).map fun i => (f i).1, ?_⟩
    have := Lies.mk (w := w) ((List.range len0).map fun i => (f i).1) (some a) cap0 (fun i => (f i).2) (by simpa using hlc) hm
      (fun x hx => by
        obtain ⟨i, hi, rfl⟩ := List.mem_map.1 hx
        exact (hf' i (List.mem_range.1 hi)).1)
      (fun i hi => by
        obtain ⟨b, o, ha, hn⟩ := (hf' i (by simpa using hi)).2.2
        exact ⟨b, o, by rw [ha], by simpa using hn⟩)
      (fun i hi => by simpa using (hf' i (by simpa using hi)).2.1)
    rwa [hl5] at this
end Go.Proofs.Ytmhmengbhdaodaa

/-! The words of the cut's first line: the facts of a row that ask for them, each made once for all rows of the seat. -/
namespace Go.Proofs.Ytmhmengbhdaodaa
open Go.ChangeShapes Go.WideShapes

def code (l : List Nat) : List Char := l.map Char.ofNat
def joinN : List (List Nat) → List Nat
  | [] => []
  | [a] => a
  | a :: b :: r => a ++ 32 :: joinN (b :: r)

theorem words_one : ∀ a : List Nat, (a.all fun n => Char.ofNat n != Char.ofNat 32) = true → wordsSigns (code a) = [code a]
  | [], _ => rfl
  | n :: a, h => by
    simp only [List.all_cons, Bool.and_eq_true, bne_iff_ne] at h
    have ih := words_one a h.2
    show wordsSigns (Char.ofNat n :: code a) = _
    rw [wordsSigns]
    · rw [ih]; rfl
    · exact h.1
theorem words_more : ∀ (a : List Nat) (r : List Char), (a.all fun n => Char.ofNat n != Char.ofNat 32) = true → wordsSigns (code a ++ Char.ofNat 32 :: r) = code a :: wordsSigns r
  | [], r, _ => by
    show wordsSigns (Char.ofNat 32 :: r) = _
    rw [show Char.ofNat 32 = _ from rfl, wordsSigns]; rfl
  | n :: a, r, h => by
    simp only [List.all_cons, Bool.and_eq_true, bne_iff_ne] at h
    have ih := words_more a r h.2
    show wordsSigns (Char.ofNat n :: (code a ++ Char.ofNat 32 :: r)) = _
    rw [wordsSigns]
    · rw [ih]; rfl
    · exact h.1
theorem words_join : ∀ ws : List (List Nat), ws ≠ [] → (ws.all fun w => w.all fun n => Char.ofNat n != Char.ofNat 32) = true → wordsSigns (code (joinN ws)) = ws.map code
  | [], h, _ => absurd rfl h
  | [a], _, h => by simp only [List.all_cons, List.all_nil, Bool.and_true] at h; exact words_one a h
  | a :: b :: r, _, h => by
    have h' := h
    rw [List.all_cons, Bool.and_eq_true] at h'
    have ih := words_join (b :: r) (by simp) h'.2
    show wordsSigns (code (a ++ 32 :: joinN (b :: r))) = _
    rw [show code (a ++ 32 :: joinN (b :: r)) = code a ++ Char.ofNat 32 :: code (joinN (b :: r)) from by simp [code], words_more a _ h'.1, ih]; rfl

def cutWords : List (List Nat) := [[104, 97, 114, 110, 101, 115, 115],
  [97, 57, 52, 57, 101, 55, 101, 48, 97, 55, 52, 102, 97, 56, 54, 57, 99, 101, 101, 50, 51, 55, 51, 102, 55, 52, 97, 50, 57, 50, 50, 100, 48, 97, 97, 48, 49, 98, 57, 55, 51, 53, 100, 54, 54, 97, 50, 56, 53, 102, 49, 57, 97, 101, 100, 57, 97, 52, 51, 49, 48, 102, 98, 99],
  [99, 117, 116],
  [97, 116],
  [116, 114, 97, 110, 115, 104, 105, 112, 47, 116, 114, 97, 110, 115, 104, 105, 112, 108, 97, 119, 48, 54, 46, 83, 116, 114, 105, 112, 69, 120, 97, 99, 116],
  [116, 114, 97, 110, 115, 104, 105, 112, 47, 116, 114, 97, 110, 115, 104, 105, 112, 108, 97, 119, 48, 55, 46, 80, 117, 116, 69, 120, 97, 99, 116],
  [116, 114, 97, 110, 115, 104, 105, 112, 47, 116, 114, 97, 110, 115, 104, 105, 112, 108, 97, 119, 48, 55, 46, 65, 108, 108, 69, 120, 97, 99, 116],
  [116, 114, 97, 110, 115, 104, 105, 112, 47, 116, 114, 97, 110, 115, 104, 105, 112, 108, 97, 119, 48, 55, 46, 80, 117, 116, 65, 108, 108],
  [116, 114, 97, 110, 115, 104, 105, 112, 47, 116, 114, 97, 110, 115, 104, 105, 112, 108, 97, 119, 48, 55, 46, 80, 117, 116, 84, 119, 105, 99, 101]]

set_option maxRecDepth 100000 in
theorem cut_words : wordsSigns Try.prog.initOrder.toList = cutWords.map code := by
  have h : Try.prog.initOrder.toList = code (joinN cutWords) := by
    show (String.ofList (code (joinN cutWords))).toList = _
    exact String.toList_ofList
  rw [h]
  exact words_join cutWords (by simp [cutWords]) (by decide +kernel)

theorem cut_behind : behindMainWord (cutWords.map code) = code [99, 117, 116] :: cutWords.tail.tail.tail.map code := by kernel_rfl
theorem cut_lifts : stripLifts liftWords (code [99, 117, 116] :: cutWords.tail.tail.tail.map code) = ([], code [99, 117, 116] :: cutWords.tail.tail.tail.map code) := by kernel_rfl
theorem cut1 : (code [99, 117, 116] == "gc".toList) = false := by kernel_rfl
theorem cut2 : (code [99, 117, 116] == "spec".toList) = false := by kernel_rfl
theorem cut3 : (code [99, 117, 116] == "cut".toList) = true := by kernel_rfl
theorem cut_all : behindMainWord (wordsSigns Try.prog.initOrder.toList) = code [99, 117, 116] :: cutWords.tail.tail.tail.map code := by rw [cut_words, cut_behind]
theorem make_of (P : Program) {c : List Char} {rest : List (List Char)} (h : behindMainWord (wordsSigns P.initOrder.toList) = c :: rest) (h1 : (c == "gc".toList) = false) (h2 : (c == "spec".toList) = false) (h3 : (c == "cut".toList) = true) : P.make = some .cut := by
  unfold Program.make; rw [h]
  simp only [h1, h2, h3, Bool.or_self, Bool.false_eq_true, if_false, Bool.true_or, if_true]
theorem mayEnter_of (P : Program) {c : List Char} {rest : List (List Char)} (h : behindMainWord (wordsSigns P.initOrder.toList) = c :: rest) (h3 : ((stripLifts liftWords (c :: rest)).2.head? == some "cut".toList) = true)
    (h4 : (stripLifts liftWords (c :: rest)).1 = []) (h5 : P.laysLater = false) (h6 : P.bearsReflect = false) (h7 : P.doorFits [] = true) : P.mayEnter = true := by
  unfold Program.mayEnter; rw [h]
  refine Bool.or_eq_true_iff.2 (Or.inr ?_)
  rw [h3, h4, h5, h6, h7]; rfl
theorem row_make : Try.prog.make = some .cut := make_of Try.prog cut_all cut1 cut2 cut3
theorem row_mayEnter : Try.prog.mayEnter = true := mayEnter_of Try.prog cut_all (by rw [cut_lifts]; kernel_rfl) (by rw [cut_lifts]) (by kernel_rfl) (by kernel_rfl) (by kernel_rfl)
theorem row_lifts : Try.prog.liftsFinal = false := by unfold Program.liftsFinal Program.headLifts; rw [cut_all, cut_lifts]; kernel_rfl
end Go.Proofs.Ytmhmengbhdaodaa

/-! AllExact holds: for every input the call returns true, and the arguments read as before. The walk of the Go text is in the texts that this one imports; no condition. -/
namespace Go.Proofs.Ytmhmengbhdaodaa.lawAllExact
open Go.ChangeShapes Go.WideShapes Go.ChangeAt Go.RowKit

set_option maxRecDepth 100000 in
theorem lifted (os : Os) (started : os.Started) (H : Type) (enc : TypeId × Value → H) :
    ReturnsInHanded {} Try.checked os 5 .any (Rows.allExactSpec.pre6 enc Try.prog Try.f5 Rows.allExactRow.domain false) (Rows.allExactSpec.post enc Try.prog Try.f5 false true false false) := by
  refine returnsInHanded_of_change (C := Try.checked) own started (by kernel_rfl) Try.func5
    (ChangeSpec.witness6 (enc := enc) (C := Try.checked) false ⟨#[], #[.agg #[.int .i64 0, .int .i64 0, .int .i64 0, .int .i64 0, .slice none 0 0], .slice none 0 0], []⟩ 8 (by kernel_rfl) (by kernel_rfl) (by kernel_rfl) (by kernel_rfl)) ?_
  intro W base args ds gs before hval0 hW hcnd _
  have hval : ∀ (j : Nat) t v, Try.f5.params[j]? = some t → args[j]? = some v → Value.okWide Try.prog W .any base t v := hval0
  have hW' := hW
  obtain ⟨p, q, hA0, hV, rfl, hfz, hnd⟩ := hW
  have hA : DataW.TrodAll enc Try.prog W 0 (fun _ => true) true Try.f5.params.toList args.toList ds p := hA0
  rw [Try.params5] at hA hval
  obtain ⟨v0, vs0, d0, ds0, p0, q0, hargs0, rfl, rfl, h0, r0⟩ := trodAll_cons hA
  obtain ⟨v1, vs1, d1, ds1, p1, q1, hargs1, rfl, rfl, h1, r1⟩ := trodAll_cons r0
  obtain ⟨rfl, rfl, rfl⟩ := trodAll_nil r1
  obtain rfl : args = #[v0, v1] := by cases args; simp_all
  obtain ⟨rfl, rfl⟩ := trodVars_none hV
  have h0k := h0
  have hlt0 : ∀ x ∈ p0, x.block < W.heap.size := fun x hx => by have := hW'.lt x (by simp [hx]); simpa using this
  obtain ⟨t0, s0, hl0, hv0⟩ := open_arg (hval 0 24 v0 rfl rfl) h0
  subst hv0
  have h1k := h1
  have hlt1 : ∀ x ∈ p1, x.block < W.heap.size := fun x hx => by have := hW'.lt x (by simp [hx]); simpa using this
  obtain ⟨l1, hl1⟩ := open_argL (hval 1 22 v1 rfl rfl) h1
  clear hA0 hval0
  simp only [List.append_nil] at hW'
  refine (allExact_any t0 l1 W s0 v1 hl0 hl1).mono fun e W' ⟨he, hb⟩ => ?_
  subst he
  exact ⟨_, rfl, _, _, _, [], _, [], hW', trodAll_cons_mk (shut_bool Try.underlying4 _) trodAll_mk0, (trodAll_cons_mk (Below.trod laidOut (by kernel_rfl) (of_decide_eq_true (by kernel_rfl)) h0k hb hlt0) (trodAll_cons_mk (Below.trod laidOut (by kernel_rfl) (of_decide_eq_true (by kernel_rfl)) h1k hb hlt1) trodAll_mk0)), rfl, hb.frame _, fun h => by cases h⟩

theorem closed : joinedFacts Try.prog 5 Try.f5 Rows.allExactSpec Rows.allExactRow = true := by
  unfold joinedFacts
  rw [row_mayEnter, row_lifts, row_make]
  kernel_rfl

theorem proved : Rows.AllExactSaid :=
  OpenClaim.holds_of_wide 5 Try.f5 rfl rfl rfl rfl rfl rfl rfl ⟨rfl, rfl, rfl, rfl, rfl⟩ rfl rfl rfl rfl rfl (by kernel_rfl) Try.func5 closed
    (of_decide_eq_true (by kernel_rfl)) (by unfold Func.isWrapper; first | (rw [if_pos (by decide +kernel)]; kernel_rfl) | (rw [if_neg (by decide +kernel)]; exact ⟨rfl, rfl⟩))
    (fun os started H enc _ => lifted os started H enc)
#print axioms proved
end Go.Proofs.Ytmhmengbhdaodaa.lawAllExact
