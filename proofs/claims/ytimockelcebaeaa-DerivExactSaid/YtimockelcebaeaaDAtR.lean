/-
  The page's own At.
-/
import Derived.Test.YtimockelcebaeaaDAt
import Derived.Deep.RegionHeld3
namespace Go.Proofs.Ytimockelcebaeaa.Dv
open Go.RowKit

theorem drewN_below {B : Nat} {a w : World} (h : Below B a w) (n : Nat) : Below B a (w.drewN n) := h.trans ⟨rfl, rfl, rfl, Nat.le_refl _, fun _ _ => rfl⟩
set_option maxRecDepth 20000 in
set_option maxHeartbeats 2000000 in
theorem drefat_any (t : Tm) (l : List Int) (w : World) (s r : Value) (hl : Lies w t.kids s) (hp : LiesI w l r) : Calls Try.prog 48 #[tv t s, r] w (GivesAt (t.at l) w) := by
  obtain ⟨a, cap, S, rfl, -⟩ := hl.out
  obtain ⟨pa, pcap, rfl, pc, pm, pn⟩ := hp.out
  unfold tv
  unfold maxLen at pm
  obtain ⟨du, hu1, hu2⟩ := under_term
  have H0 := two_start w t (.slice a t.kids.length cap)
  have PN := Lib.hid pn
  have HL := Lib.hid hl
  obtain ⟨V, hV⟩ : ∃ V, t.at l = V := ⟨_, rfl⟩
  have HV := Lib.hid hV
  rw [hV]
  clear hV pn hl hp
  go_enter Try.func48, Try.ntmps48
  go_wp2_with fail
  go_loopw [6] (fun iv wr => ∃ (p : Nat) (u : Tm) (au : Option Addr) (cu : Nat), p ≤ l.length ∧ iv = .int .i64 p ∧ Hid (u.at (l.drop p) = V) ∧ Hid (Lies w u.kids (.slice au u.kids.length cu)) ∧ Two w u (.slice au u.kids.length cu) wr) (fun iv _ => l.length - (intOf iv).toNat)
  case atStart => exact ⟨0, t, a, cap, Nat.zero_le _, rfl, HV.out, HL.out, H0⟩
  case round =>
    clear H0 HV HL
    obtain ⟨p, u, au, cu, hp0, rfl, hV, hl, h2⟩ := hrel
    obtain ⟨d0, d1, d2⟩ := five_cells h2.cur
    obtain ⟨z0, z1, z2⟩ := five_cells h2.res
    obtain ⟨f0, f1, f2⟩ := five_free h2.res
    obtain ⟨g0, g1, g2⟩ := five_free h2.cur
    by_cases hlt : p < l.length
    · obtain ⟨pb, po, rfl, hx⟩ := PN.out p hlt
      have hc := (h2.below.cell (World.block_lt_of_cell? _ _ hx)).trans hx
      obtain ⟨x, hxe⟩ : ∃ x, l[p] = x := ⟨_, rfl⟩
      rw [hxe] at hc
      by_cases hin : 0 ≤ x ∧ x < u.kids.length
      · obtain ⟨k, rfl⟩ : ∃ k : Nat, x = (k : Int) := ⟨x.toNat, by omega⟩
        have hk : k < u.kids.length := by omega
        have e1 : decide ((k : Int) < 0) = false := decide_eq_false (by omega)
        have e2 : decide ((u.kids.length : Int) ≤ (k : Int)) = false := decide_eq_false (by omega)
        have j1 : (k : Int) < (u.kids.length : Int) := by omega
        obtain ⟨ua, ucap, US, hus, uc, um, uf, un, uk⟩ := hl.out.out
        obtain ⟨b, o, hab, hy⟩ := un k hk
        simp only [Value.slice.injEq] at hus
        obtain ⟨rfl, -, rfl⟩ := hus
        subst hab
        obtain ⟨y0, y1, y2⟩ := hy.below h2.below hy.lt
        have hkl := uk k hk
        obtain ⟨a', cap', S', hS, -⟩ := hkl.out
        rw [hS] at hkl y2
        have hst := at_step hlt hk hxe
        have HST := Lib.hid (hst.symm.trans hV.out)
        have HKL := Lib.hid hkl
        have H3 := two_set (u := u.kids[k]) (su := .slice a' u.kids[k].kids.length cap') h2
        have HH := Lib.hid h2
        clear hS hkl hst h2 hl hV hin hx hy uf un uk uc um hxe
        have e3 : decide (u.kids.length ≤ k) = false := decide_eq_false (by omega)
        go_wp2_with fail
        go_quiet (fail)
        go_wp2_with fail
        go_region_with (fail)
        all_goals
          go_wp2
          go_roundw
          case rel => exact ⟨p + 1, u.kids[k], a', cap', hlt, by go_num, HST.out, HKL.out, two_set (two_drewN HH.out _)⟩
          case measure => simp [intOf]; omega
      · have hst := at_out hlt (by rw [hxe]; exact hin)
        have HVN := Lib.hid (hV.out.symm.trans hst)
        have hb := h2.below
        have hr := h2.res
        clear hst hV hl
        by_cases hneg : x < 0
        · have e1 : decide (x < 0) = true := decide_eq_true hneg
          go_wp2_with fail
          go_quiet (fail)
          go_wp2
          refine bodyPost_ret (results_cell_tmp rfl _ _ (w.heap.size + 1) _ _ _ du rfl (five_set hr) hu1 (by cases du <;> first | rfl | exact hu2) size_term) rfl ?_
          rw [HVN.out]
          exact ⟨rfl, below_five (drewN_below hb _) (by omega) _ _ _⟩
        · have e1 : decide (x < 0) = false := decide_eq_false hneg
          have e2 : decide ((u.kids.length : Int) ≤ x) = true := decide_eq_true (by omega)
          go_wp2_with fail
          go_quiet (fail)
          go_wp2
          refine bodyPost_ret (results_cell_tmp rfl _ _ (w.heap.size + 1) _ _ _ du rfl (five_set hr) hu1 (by cases du <;> first | rfl | exact hu2) size_term) rfl ?_
          rw [HVN.out]
          exact ⟨rfl, below_five (drewN_below hb _) (by omega) _ _ _⟩
    · have : p = l.length := by omega
      subst this
      have HVS := Lib.hid (show V = some u by rw [← hV.out, List.drop_length]; rfl)
      have hlw := hl.out
      have hb := h2.below
      have hr := h2.res
      have hF := two_drewN h2 0
      clear hV hl
      go_wp2
      refine bodyPost_ret (results_cell_tmp rfl _ _ (w.heap.size + 1) _ _ _ du rfl (five_set hr) hu1 (by cases du <;> first | rfl | exact hu2) size_term) rfl ?_
      rw [HVS.out]
      exact ⟨⟨_, rfl, hlw.keep (below_five hb (by omega) _ _ _)⟩, below_five hb (by omega) _ _ _⟩
end Go.Proofs.Ytimockelcebaeaa.Dv
