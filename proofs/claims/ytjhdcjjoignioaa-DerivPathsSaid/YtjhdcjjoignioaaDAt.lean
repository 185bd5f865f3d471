/-
  deriv.At, and the page's own: what stands at a path.
-/
import Derived.Test.YtjhdcjjoignioaaDCopy
import Derived.Test.YtjhdcjjoignioaaInts
import Derived.Deep.QuietTactic
import Derived.BigQuiet
namespace Go.Proofs.Ytjhdcjjoignioaa.Dv
open Go.RowKit

def Tm.at : List Int → Tm → Option Tm
  | [], t => some t
  | k :: r, t => if 0 ≤ k ∧ k < t.kids.length then ((t.kids[k.toNat]?).getD .zero).at r else none
theorem at_nil (t : Tm) : t.at [] = some t := rfl
theorem at_step {t : Tm} {l : List Int} {p : Nat} (hp : p < l.length) {k : Nat} (hk : k < t.kids.length) (he : l[p] = (k : Int)) : t.at (l.drop p) = (t.kids[k]).at (l.drop (p + 1)) := by
  rw [List.drop_eq_getElem_cons hp, he]
  simp only [Tm.at]
  rw [if_pos (by omega), show ((k : Int)).toNat = k by omega, List.getElem?_eq_getElem hk]; rfl
theorem at_out {t : Tm} {l : List Int} {p : Nat} (hp : p < l.length) (he : ¬ (0 ≤ l[p] ∧ l[p] < t.kids.length)) : t.at (l.drop p) = none := by
  rw [List.drop_eq_getElem_cons hp]
  simp only [Tm.at]
  rw [if_neg he]

/-- What At hands back: the derivation there (in P's blocks), or nothing. -/
def AtSome (u : Tm) (w : World) (e : Ending) (w' : World) : Prop := (∃ s' : Value, e = .returned (.tuple #[tv u s', .bool true]) ∧ Lies w' u.kids s') ∧ Below w.heap.size w w'
def AtNone (w : World) (e : Ending) (w' : World) : Prop := e = .returned (.tuple #[tv .zero (.slice none 0 0), .bool false]) ∧ Below w.heap.size w w'
def GivesAt : Option Tm → World → Ending → World → Prop
  | some u => AtSome u
  | none => AtNone
theorem lies_nil (w : World) : Lies w [] (.slice none 0 0) := (liesP_nil w (fun _ => True)).lies

/-- The two blocks of the call: what it stands at, and its result. -/
structure Two (w : World) (u : Tm) (su : Value) (w' : World) : Prop where
  below : Below w.heap.size w w'
  cur : w'.heap[w.heap.size]? = some (.cells #[.int .i64 u.k, .int .i64 u.i, su] 53 (0, 0))
  res : w'.heap[w.heap.size + 1]? = some zeroObj
theorem two_start (w : World) (t : Tm) (s : Value) : Two w t s ((w.alloc (.cells #[.int .i64 t.k, .int .i64 t.i, s] 53)).alloc (.cells #[.int .i64 0, .int .i64 0, .slice none 0 0] 53)) :=
  ⟨((Below.refl _ _).alloc (Nat.le_refl _) _).alloc (by simp) _, by rw [Below.heap_alloc _ _ _ (by simp), alloc_new], by have := alloc_new (w.alloc (.cells #[.int .i64 t.k, .int .i64 t.i, s] 53)) zeroObj; simpa using this⟩
theorem two_drewN {w w1 : World} {t : Tm} {s : Value} (h : Two w t s w1) (n : Nat) : Two w t s (w1.drewN n) := ⟨Below.trans h.below ⟨rfl, rfl, rfl, Nat.le_refl _, fun _ _ => rfl⟩, h.cur, h.res⟩
theorem two_set {w w1 : World} {t u : Tm} {s su : Value} (h : Two w t s w1) : Two w u su (((w1.setCell ⟨w.heap.size, 0, none⟩ (.int .i64 u.k)).setCell ⟨w.heap.size, 1, none⟩ (.int .i64 u.i)).setCell ⟨w.heap.size, 2, none⟩ su) := by
  refine ⟨((h.below.setCell (Nat.le_refl _) _).setCell (Nat.le_refl _) _).setCell (Nat.le_refl _) _, five_set h.cur, ?_⟩
  rw [Below.heap_setCell _ _ _ _ (by show w.heap.size + 1 ≠ w.heap.size; omega), Below.heap_setCell _ _ _ _ (by show w.heap.size + 1 ≠ w.heap.size; omega), Below.heap_setCell _ _ _ _ (by show w.heap.size + 1 ≠ w.heap.size; omega)]
  exact h.res

set_option maxRecDepth 20000 in
set_option maxHeartbeats 2000000 in
theorem dat_any (t : Tm) (l : List Int) (w : World) (s r : Value) (hl : Lies w t.kids s) (hp : LiesI w l r) (hsz : t.size ≤ 1000000) : Calls Try.prog 33 #[tv t s, r] w (GivesAt (t.at l) w) := by
  obtain ⟨a, cap, S, rfl, -⟩ := hl.out
  obtain ⟨pa, pcap, rfl, pc, pm, pn⟩ := hp.out
  unfold tv
  unfold maxLen at pm
  obtain ⟨du, hu1, hu2⟩ := under_term
  have H0 := two_start w t (.slice a t.kids.length cap)
  have PN := Lib.hid pn
  have HL := Lib.hid hl
  have HSZ := Lib.hid hsz
  obtain ⟨V, hV⟩ : ∃ V, t.at l = V := ⟨_, rfl⟩
  have HV := Lib.hid hV
  rw [hV]
  clear hV pn hl hp hsz
  go_enter Try.func33, Try.ntmps33
  go_wp2_with fail
  go_loopw [10] (fun iv wr => ∃ (p : Nat) (u : Tm) (au : Option Addr) (cu : Nat), p ≤ l.length ∧ iv = .int .i64 p ∧ Hid (u.at (l.drop p) = V) ∧ Hid (u.size ≤ 1000000) ∧ Hid (Lies w u.kids (.slice au u.kids.length cu)) ∧ Two w u (.slice au u.kids.length cu) wr) (fun iv _ => l.length - (intOf iv).toNat)
  case atStart => exact ⟨0, t, a, cap, Nat.zero_le _, rfl, HV.out, HSZ.out, HL.out, H0⟩
  case round =>
    clear H0 HV HSZ HL
    obtain ⟨p, u, au, cu, hp0, rfl, hV, hsz, hl, h2⟩ := hrel
    obtain ⟨d0, d1, d2⟩ := five_cells h2.cur
    obtain ⟨z0, z1, z2⟩ := five_cells h2.res
    obtain ⟨f0, f1, f2⟩ := five_free h2.res
    obtain ⟨g0, g1, g2⟩ := five_free h2.cur
    by_cases hlt : p < l.length
    · obtain ⟨pb, po, rfl, hx⟩ := PN.out p hlt
      have hc := (h2.below.cell (World.block_lt_of_cell? _ _ hx)).trans hx
      obtain ⟨x, hxe⟩ : ∃ x, l[p] = x := ⟨_, rfl⟩
      rw [hxe] at hc
      by_cases hin : 0 ≤ x ∧ x < u.kids.length
      · obtain ⟨k, rfl⟩ : ∃ k : Nat, x = (k : Int) := ⟨x.toNat, by omega⟩
        have hk : k < u.kids.length := by omega
        have e1 : decide ((k : Int) < 0) = false := decide_eq_false (by omega)
        have e2 : decide ((u.kids.length : Int) ≤ (k : Int)) = false := decide_eq_false (by omega)
        have j1 : (k : Int) < (u.kids.length : Int) := by omega
        obtain ⟨ua, ucap, US, hus, uc, um, uf, un, uk⟩ := hl.out.out
        obtain ⟨b, o, hab, hy⟩ := un k hk
        simp only [Value.slice.injEq] at hus
        obtain ⟨rfl, -, rfl⟩ := hus
        subst hab
        obtain ⟨y0, y1, y2⟩ := hy.below h2.below hy.lt
        have hkl := uk k hk
        obtain ⟨a', cap', S', hS, -⟩ := hkl.out
        rw [hS] at hkl y2
        have hst := at_step hlt hk hxe
        have HST := Lib.hid (hst.symm.trans hV.out)
        have HKS := Lib.hid (show (u.kids[k]).size ≤ 1000000 by have := size_mem u.kids _ (List.getElem_mem hk); have := u.size_eq; have := hsz.out; omega)
        have HKL := Lib.hid hkl
        have H3 := two_set (u := u.kids[k]) (su := .slice a' u.kids[k].kids.length cap') h2
        have HH := Lib.hid h2
        clear hS hkl hst h2 hl hsz hV hin hx hy uf un uk uc um hxe
        go_wp2
        go_roundw
        case rel => exact ⟨p + 1, u.kids[k], a', cap', hlt, by go_num, HST.out, HKS.out, HKL.out, H3⟩
        case measure => simp [intOf]; omega
      · have hst := at_out hlt (by rw [hxe]; exact hin)
        have HVN := Lib.hid (hV.out.symm.trans hst)
        have hb := h2.below
        have hr := h2.res
        clear hst hV hl hsz
        by_cases hneg : x < 0
        · have e1 : decide (x < 0) = true := decide_eq_true hneg
          go_wp2
          refine bodyPost_ret (results_cell_tmp rfl _ _ (w.heap.size + 1) _ _ _ du rfl (five_set hr) hu1 (by cases du <;> first | rfl | exact hu2) size_term) rfl ?_
          rw [HVN.out]
          exact ⟨rfl, below_five hb (by omega) _ _ _⟩
        · have e1 : decide (x < 0) = false := decide_eq_false hneg
          have e2 : decide ((u.kids.length : Int) ≤ x) = true := decide_eq_true (by omega)
          go_wp2
          refine bodyPost_ret (results_cell_tmp rfl _ _ (w.heap.size + 1) _ _ _ du rfl (five_set hr) hu1 (by cases du <;> first | rfl | exact hu2) size_term) rfl ?_
          rw [HVN.out]
          exact ⟨rfl, below_five hb (by omega) _ _ _⟩
    · have : p = l.length := by omega
      subst this
      have HVS := Lib.hid (show V = some u by rw [← hV.out, List.drop_length]; rfl)
      have hlu := hl.out.keep h2.below
      have hb := h2.below
      have hr := h2.res
      have HR := Lib.hid hr
      have HB := Lib.hid hb
      have HSU := Lib.hid hsz.out
      have HLU := Lib.hid hlu
      clear hV hl hsz h2 hlu hr hb z0 z1 z2 f0 f1 f2
      go_wp2_with fail
      refine (dcopy_any u _ _ HLU.out HSU.out).mono ?_
      rintro e w3 ⟨s3, rfl, hl3, hb3⟩
      obtain ⟨a3, cap3, rfl, -, -⟩ := hl3.out
      have hr3 := (hb3.block (w.heap.size + 1) ((Array.getElem?_eq_some_iff.1 HR.out).1)).trans HR.out
      have hb4 := HB.out.trans (hb3.mono HB.out.size)
      obtain ⟨z0, z1, z2⟩ := five_cells hr3
      obtain ⟨f0, f1, f2⟩ := five_free hr3
      have hs1 : w.heap.size + 1 < wr.heap.size := (Array.getElem?_eq_some_iff.1 HR.out).1
      go_wp2
      refine bodyPost_ret (results_cell_tmp rfl _ _ (w.heap.size + 1) _ _ _ du rfl (five_set hr3) hu1 (by cases du <;> first | rfl | exact hu2) size_term) rfl ?_
      rw [HVS.out]
      exact ⟨⟨_, rfl, (liesP_fives (N := 0) hl3 hs1 (Nat.zero_le _) _ _ _).lies⟩, below_five hb4 (by omega) _ _ _⟩
end Go.Proofs.Ytjhdcjjoignioaa.Dv
