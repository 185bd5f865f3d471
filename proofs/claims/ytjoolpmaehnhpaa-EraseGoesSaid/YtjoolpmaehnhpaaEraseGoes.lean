/-
  The walk of transhiplaw08.EraseGoes.
-/
import Derived.Test.YtjoolpmaehnhpaaPut
import Derived.Test.YtjoolpmaehnhpaaRefMore
import Derived.Test.YtjoolpmaehnhpaaLawKit
import Derived.Test.YtjoolpmaehnhpaaL8
import Derived.Deep.DeepCutAuto
namespace Go.Proofs.Ytjoolpmaehnhpaa
open Go.RowKit

/-- Two boxed terms have come. -/
def TwoIn (v : World) (X Y : Tm) (s7 s8 : Value) (wx : World) : Prop := ∃ (bx bY : Nat) (ax ay : Option Addr) (cx cy : Nat), s7 = .pointer (some ⟨bx, 0, none⟩) ∧ s8 = .pointer (some ⟨bY, 0, none⟩) ∧ Kept v wx ∧ wx.heap[bx]? = some (boxOf X (.slice ax X.kids.length cx)) ∧ wx.heap[bY]? = some (boxOf Y (.slice ay Y.kids.length cy)) ∧ Lies wx X.kids (.slice ax X.kids.length cx) ∧ Lies wx Y.kids (.slice ay Y.kids.length cy)
theorem pre_one {v w : World} {B : Nat} (h : Below B (v.alloc zeroObj).drew w) (hB : B = (v.alloc zeroObj).drew.heap.size := by rfl) : w.heap[v.heap.size]? = some zeroObj := by
  subst hB
  exact keep_block h (by show v.heap.size < (v.alloc zeroObj).heap.size; simp) (alloc_new v zeroObj)
theorem pre_two {v w : World} {B : Nat} (h : Below B ((v.alloc zeroObj).alloc zeroObj).drew w) (hB : B = ((v.alloc zeroObj).alloc zeroObj).drew.heap.size := by rfl) : w.heap[v.heap.size]? = some zeroObj ∧ w.heap[v.heap.size + 1]? = some zeroObj := by
  subst hB
  have hs : ((v.alloc zeroObj).alloc zeroObj).drew.heap.size = v.heap.size + 1 + 1 := by show ((v.alloc zeroObj).alloc zeroObj).heap.size = _; simp
  refine ⟨keep_block h (by omega) ?_, keep_block h (by omega) (heap_alloc2_new v zeroObj zeroObj)⟩
  show ((v.alloc zeroObj).alloc zeroObj).heap[v.heap.size]? = some zeroObj
  rw [Below.heap_alloc _ _ _ (by simp), alloc_new]
theorem mid_one {v w : World} {B : Nat} (h : Below B (v.alloc zeroObj) w) (hB : B = (v.alloc zeroObj).heap.size := by rfl) : Below v.heap.size v w ∧ w.heap[v.heap.size]? = some zeroObj := by
  subst hB
  exact ⟨((Below.refl _ _).alloc (Nat.le_refl _) _).trans (h.mono (by simp)), keep_block h (by simp) (alloc_new v zeroObj)⟩
theorem mid_two {v w : World} {B : Nat} (h : Below B ((v.alloc zeroObj).alloc zeroObj) w) (hB : B = ((v.alloc zeroObj).alloc zeroObj).heap.size := by rfl) : Below v.heap.size v w ∧ w.heap[v.heap.size]? = some zeroObj ∧ w.heap[v.heap.size + 1]? = some zeroObj := by
  subst hB
  have hs : ((v.alloc zeroObj).alloc zeroObj).heap.size = v.heap.size + 1 + 1 := by simp
  refine ⟨(((Below.refl _ _).alloc (Nat.le_refl _) _).alloc (by simp) _).trans (h.mono (by omega)), keep_block h (by omega) ?_, keep_block h (by omega) (heap_alloc2_new v zeroObj zeroObj)⟩
  rw [Below.heap_alloc _ _ _ (by simp), alloc_new]
theorem lies_far {w w' : World} {B : Nat} {l : List Tm} {s : Value} (h : LiesP w (Own B w) l s) (hb : ∀ b, B ≤ b → b < w.heap.size → w'.heap[b]? = w.heap[b]?) : Lies w' l s :=
  LiesP.lies (LiesP.keep (Q := fun _ => True) h (fun b hp hlt => hb b hp.1 hlt) (fun _ _ _ => trivial))
theorem two_s1 {v wa wb : World} {X Y : Tm} {B1 B2 cx cy : Nat} {ax ay : Option Addr} (hk : Kept v wb) (hW : Below wa.heap.size wa wb) (hX : LiesP wa (Own B1 wa) X.kids (.slice ax X.kids.length cx)) (hY : LiesP wb (Own B2 wb) Y.kids (.slice ay Y.kids.length cy)) : TwoIn v X Y (.pointer (some ⟨wb.heap.size, 0, none⟩)) (.pointer (some ⟨wb.heap.size + 1, 0, none⟩)) ((wb.alloc (.cells #[.int .i64 X.k, .int .i64 X.i, .int .i64 X.j, .int .i64 X.n, .slice ax X.kids.length cx] 47)).alloc (.cells #[.int .i64 Y.k, .int .i64 Y.i, .int .i64 Y.j, .int .i64 Y.n, .slice ay Y.kids.length cy] 47)) := by
  have hb : Below wb.heap.size wb ((wb.alloc (.cells #[.int .i64 X.k, .int .i64 X.i, .int .i64 X.j, .int .i64 X.n, .slice ax X.kids.length cx] 47)).alloc (.cells #[.int .i64 Y.k, .int .i64 Y.i, .int .i64 Y.j, .int .i64 Y.n, .slice ay Y.kids.length cy] 47)) := ((Below.refl _ _).alloc (Nat.le_refl _) _).alloc (by simp) _
  exact ⟨_, _, ax, ay, cx, cy, rfl, rfl, kept_call hk hb, by rw [Below.heap_alloc _ _ _ (by simp), alloc_new]; rfl, heap_alloc2_new _ _ _, (lies_far hX fun b _ h => hW.block b h).keep hb, hY.lies.keep hb⟩
theorem two_s2 {v wa wb : World} {X Y : Tm} {B1 B2 cx cy : Nat} {ax ay : Option Addr} (hk : Kept v wb) (hW : Below wa.heap.size wa wb) (hX : LiesP wa (Own B1 wa) X.kids (.slice ax X.kids.length cx)) (hY : LiesP wb (Own B2 wb) Y.kids (.slice ay Y.kids.length cy)) : TwoIn v X Y (.pointer (some ⟨wb.heap.size + 1, 0, none⟩)) (.pointer (some ⟨wb.heap.size, 0, none⟩)) ((wb.alloc (.cells #[.int .i64 Y.k, .int .i64 Y.i, .int .i64 Y.j, .int .i64 Y.n, .slice ay Y.kids.length cy] 47)).alloc (.cells #[.int .i64 X.k, .int .i64 X.i, .int .i64 X.j, .int .i64 X.n, .slice ax X.kids.length cx] 47)) := by
  have hb : Below wb.heap.size wb ((wb.alloc (.cells #[.int .i64 Y.k, .int .i64 Y.i, .int .i64 Y.j, .int .i64 Y.n, .slice ay Y.kids.length cy] 47)).alloc (.cells #[.int .i64 X.k, .int .i64 X.i, .int .i64 X.j, .int .i64 X.n, .slice ax X.kids.length cx] 47)) := ((Below.refl _ _).alloc (Nat.le_refl _) _).alloc (by simp) _
  exact ⟨_, _, ax, ay, cx, cy, rfl, rfl, kept_call hk hb, heap_alloc2_new _ _ _, by rw [Below.heap_alloc _ _ _ (by simp), alloc_new]; rfl, (lies_far hX fun b _ h => hW.block b h).keep hb, hY.lies.keep hb⟩
theorem two_s3a {v wa wb : World} {X Y : Tm} {B1 B2 cx cy : Nat} {ax ay : Option Addr} (hk : Kept v wb) (hW : Below wa.heap.size wa wb) (hX : LiesP wa (Own B1 wa) X.kids (.slice ax X.kids.length cx)) (hY : LiesP wb (Own B2 wb) Y.kids (.slice ay Y.kids.length cy)) {b1 : Nat} (hz : wb.heap[b1]? = some zeroObj) (hv : v.heap.size ≤ b1) (h1 : b1 < B1 ∨ wa.heap.size ≤ b1) (g1 : b1 < B2) : TwoIn v X Y (.pointer (some ⟨b1, 0, none⟩)) (.pointer (some ⟨wb.heap.size, 0, none⟩)) ((((((wb.setCell ⟨b1, 0, none⟩ (.int .i64 X.k)).setCell ⟨b1, 1, none⟩ (.int .i64 X.i)).setCell ⟨b1, 2, none⟩ (.int .i64 X.j)).setCell ⟨b1, 3, none⟩ (.int .i64 X.n)).setCell ⟨b1, 4, none⟩ (.slice ax X.kids.length cx)).alloc (.cells #[.int .i64 Y.k, .int .i64 Y.i, .int .i64 Y.j, .int .i64 Y.n, .slice ay Y.kids.length cy] 47)) := by
  show TwoIn v X Y _ _ ((five wb b1 _ _ _ _ _).alloc _)
  have hs : (five wb b1 (.int .i64 X.k) (.int .i64 X.i) (.int .i64 X.j) (.int .i64 X.n) (.slice ax X.kids.length cx)).heap.size = wb.heap.size := five_size _ _ _ _ _ _ _
  have hk1 : Kept v (five wb b1 (.int .i64 X.k) (.int .i64 X.i) (.int .i64 X.j) (.int .i64 X.n) (.slice ax X.kids.length cx)) := below_five hk hv _ _ _ _ _
  have hb : Below (five wb b1 (.int .i64 X.k) (.int .i64 X.i) (.int .i64 X.j) (.int .i64 X.n) (.slice ax X.kids.length cx)).heap.size (five wb b1 (.int .i64 X.k) (.int .i64 X.i) (.int .i64 X.j) (.int .i64 X.n) (.slice ax X.kids.length cx)) ((five wb b1 (.int .i64 X.k) (.int .i64 X.i) (.int .i64 X.j) (.int .i64 X.n) (.slice ax X.kids.length cx)).alloc (.cells #[.int .i64 Y.k, .int .i64 Y.i, .int .i64 Y.j, .int .i64 Y.n, .slice ay Y.kids.length cy] 47)) := (Below.refl _ _).alloc (Nat.le_refl _) _
  refine ⟨b1, wb.heap.size, ax, ay, cx, cy, rfl, rfl, kept_call hk1 hb, ?_, ?_, Lies.keep ?_ hb, Lies.keep ?_ hb⟩
  · exact keep_block hb (by rw [hs]; exact block_lt hz) (five_set hz)
  · rw [← hs]; exact alloc_new _ _
  · exact lies_far hX fun b hb1 h => by rw [five_other _ _ _ _ _ _ _ (by omega)]; exact hW.block b h
  · exact LiesP.lies (liesP_fives hY g1 (Nat.le_refl _) _ _ _ _ _)
theorem two_s3b {v wa wb : World} {X Y : Tm} {B1 B2 cx cy : Nat} {ax ay : Option Addr} (hk : Kept v wb) (hW : Below wa.heap.size wa wb) (hX : LiesP wa (Own B1 wa) X.kids (.slice ax X.kids.length cx)) (hY : LiesP wb (Own B2 wb) Y.kids (.slice ay Y.kids.length cy)) {b1 : Nat} (hz : wb.heap[b1]? = some zeroObj) (hv : v.heap.size ≤ b1) (h1 : b1 < B1 ∨ wa.heap.size ≤ b1) (g1 : b1 < B2) : TwoIn v X Y (.pointer (some ⟨wb.heap.size, 0, none⟩)) (.pointer (some ⟨b1, 0, none⟩)) ((((((wb.setCell ⟨b1, 0, none⟩ (.int .i64 Y.k)).setCell ⟨b1, 1, none⟩ (.int .i64 Y.i)).setCell ⟨b1, 2, none⟩ (.int .i64 Y.j)).setCell ⟨b1, 3, none⟩ (.int .i64 Y.n)).setCell ⟨b1, 4, none⟩ (.slice ay Y.kids.length cy)).alloc (.cells #[.int .i64 X.k, .int .i64 X.i, .int .i64 X.j, .int .i64 X.n, .slice ax X.kids.length cx] 47)) := by
  show TwoIn v X Y _ _ ((five wb b1 _ _ _ _ _).alloc _)
  have hs : (five wb b1 (.int .i64 Y.k) (.int .i64 Y.i) (.int .i64 Y.j) (.int .i64 Y.n) (.slice ay Y.kids.length cy)).heap.size = wb.heap.size := five_size _ _ _ _ _ _ _
  have hk1 : Kept v (five wb b1 (.int .i64 Y.k) (.int .i64 Y.i) (.int .i64 Y.j) (.int .i64 Y.n) (.slice ay Y.kids.length cy)) := below_five hk hv _ _ _ _ _
  have hb : Below (five wb b1 (.int .i64 Y.k) (.int .i64 Y.i) (.int .i64 Y.j) (.int .i64 Y.n) (.slice ay Y.kids.length cy)).heap.size (five wb b1 (.int .i64 Y.k) (.int .i64 Y.i) (.int .i64 Y.j) (.int .i64 Y.n) (.slice ay Y.kids.length cy)) ((five wb b1 (.int .i64 Y.k) (.int .i64 Y.i) (.int .i64 Y.j) (.int .i64 Y.n) (.slice ay Y.kids.length cy)).alloc (.cells #[.int .i64 X.k, .int .i64 X.i, .int .i64 X.j, .int .i64 X.n, .slice ax X.kids.length cx] 47)) := (Below.refl _ _).alloc (Nat.le_refl _) _
  refine ⟨wb.heap.size, b1, ax, ay, cx, cy, rfl, rfl, kept_call hk1 hb, ?_, ?_, Lies.keep ?_ hb, Lies.keep ?_ hb⟩
  · rw [← hs]; exact alloc_new _ _
  · exact keep_block hb (by rw [hs]; exact block_lt hz) (five_set hz)
  · exact lies_far hX fun b hb1 h => by rw [five_other _ _ _ _ _ _ _ (by omega)]; exact hW.block b h
  · exact LiesP.lies (liesP_fives hY g1 (Nat.le_refl _) _ _ _ _ _)
theorem two_s4 {v wa wb : World} {X Y : Tm} {B1 B2 cx cy : Nat} {ax ay : Option Addr} (hk : Kept v wb) (hW : Below wa.heap.size wa wb) (hX : LiesP wa (Own B1 wa) X.kids (.slice ax X.kids.length cx)) (hY : LiesP wb (Own B2 wb) Y.kids (.slice ay Y.kids.length cy)) {b1 b2 : Nat} (hz : wb.heap[b1]? = some zeroObj) (hz2 : wb.heap[b2]? = some zeroObj) (hne : b1 ≠ b2) (hv : v.heap.size ≤ b1) (hv2 : v.heap.size ≤ b2) (h1 : b1 < B1 ∨ wa.heap.size ≤ b1) (h2 : b2 < B1 ∨ wa.heap.size ≤ b2) (g1 : b1 < B2) (g2 : b2 < B2) : TwoIn v X Y (.pointer (some ⟨b1, 0, none⟩)) (.pointer (some ⟨b2, 0, none⟩)) ((((((((((wb.setCell ⟨b1, 0, none⟩ (.int .i64 X.k)).setCell ⟨b1, 1, none⟩ (.int .i64 X.i)).setCell ⟨b1, 2, none⟩ (.int .i64 X.j)).setCell ⟨b1, 3, none⟩ (.int .i64 X.n)).setCell ⟨b1, 4, none⟩ (.slice ax X.kids.length cx)).setCell ⟨b2, 0, none⟩ (.int .i64 Y.k)).setCell ⟨b2, 1, none⟩ (.int .i64 Y.i)).setCell ⟨b2, 2, none⟩ (.int .i64 Y.j)).setCell ⟨b2, 3, none⟩ (.int .i64 Y.n)).setCell ⟨b2, 4, none⟩ (.slice ay Y.kids.length cy)) := by
  show TwoIn v X Y _ _ (five (five wb b1 _ _ _ _ _) b2 _ _ _ _ _)
  refine ⟨b1, b2, ax, ay, cx, cy, rfl, rfl, below_five (below_five hk hv _ _ _ _ _) hv2 _ _ _ _ _, ?_, ?_, ?_, ?_⟩
  · rw [five_other _ _ _ _ _ _ _ (by omega)]; exact five_set hz
  · exact five_set (by rw [five_other _ _ _ _ _ _ _ (by omega)]; exact hz2)
  · exact lies_far hX fun b hb1 h => by rw [five_other _ _ _ _ _ _ _ (by omega), five_other _ _ _ _ _ _ _ (by omega)]; exact hW.block b h
  · exact LiesP.lies (liesP_fives (liesP_fives hY g1 (Nat.le_refl _) _ _ _ _ _) g2 (Nat.le_refl _) _ _ _ _ _)
theorem pur_deep (t : Tm) : t.pur.deep ≤ t.deep := by
  induction t using Tm.ind with
  | h t ih =>
    have hall : ∀ x ∈ t.kids.map Tm.pur, x.deep ≤ deeps t.kids := fun x hx => by
      obtain ⟨y, hy, rfl⟩ := List.mem_map.1 hx
      exact Nat.le_trans (ih y hy) (deep_mem hy)
    rw [Tm.pur_eq, t.deep_eq]
    unfold purNode
    split
    · cases h3 : (t.kids.map Tm.pur)[3]? with
      | none => simp [Tm.deep, deeps]
      | some x => exact Nat.le_succ_of_le (hall x (List.mem_of_getElem? h3))
    · rw [Tm.deep_eq]; exact Nat.succ_le_succ (deeps_bound hall)
theorem eraseB_deep (t : Tm) (h : t.deep ≤ 100000) : t.eraseB.deep ≤ 100000 := by
  unfold Tm.eraseB
  split
  · exact Nat.le_trans (pur_deep t) h
  · simp [Tm.zero, Tm.deep, deeps]

set_option maxRecDepth 20000 in
set_option maxHeartbeats 4000000 in
theorem eraseGoes_any (t u : Tm) (k : Int) (w : World) (s r : Value) (hl : Lies w t.kids s) (hm : Lies w u.kids r) (hk : I64 k) : Calls Try.prog 13 #[tv t s, tv u r, .int .i64 k] w fun e w' => e = .returned (.bool true) ∧ Below w.heap.size w w' := by
  obtain ⟨a, cap, S, rfl, -⟩ := hl.out
  obtain ⟨a2, cap2, S2, rfl, -⟩ := hm.out
  have HL := Lib.hid hl
  have HM := Lib.hid hm
  have H0 := held2_start w t (.slice a t.kids.length cap) u (.slice a2 u.kids.length cap2)
  clear hl hm
  unfold tv
  go_enter Try.func13, Try.ntmps13
  go_wp2_with fail
  refine (great_any t _ _ 250 (held2_lies H0 HL.out) (by omega) (by omega)).mono ?_
  rintro e w1 ⟨g, rfl, hg, hb'⟩
  have H1 := held2_call H0 hb'
  obtain ⟨d0, d1, d2, d3, d4, c0, c1, c2, c3, c4⟩ := held2_cells H1
  have HG := Lib.hid hg
  clear hg hb' H0
  cases g with
  | true =>
    go_wp2
    go_ret
    exact ⟨rfl, held2_below H1⟩
  | false =>
  have hz_t := (HG.out rfl).1
  have hd_t := (HG.out rfl).2
  clear HG
  go_wp2_with fail
  refine (great_any u _ _ 250 (held2_lies H1 HM.out) (by omega) (by omega)).mono ?_
  rintro e w2 ⟨g, rfl, hg, hb'⟩
  have H2 := held2_call H1 hb'
  obtain ⟨d0, d1, d2, d3, d4, c0, c1, c2, c3, c4⟩ := held2_cells H2
  have HG := Lib.hid hg
  clear hg hb' H1
  cases g with
  | true =>
    go_wp2
    go_ret
    exact ⟨rfl, held2_below H2⟩
  | false =>
  have hz_u := (HG.out rfl).1
  have hd_u := (HG.out rfl).2
  clear HG
  go_wp2_with fail
  refine (refmarked_any t _ _ (held2_lies H2 HL.out)).mono ?_
  rintro e w3 ⟨rfl, hb'⟩
  have H3 := held2_call H2 hb'
  obtain ⟨d0, d1, d2, d3, d4, c0, c1, c2, c3, c4⟩ := held2_cells H3
  clear hb' H2
  cases hr_mt : t.markedB with
  | false =>
    go_wp2
    go_ret
    exact ⟨rfl, held2_below H3⟩
  | true =>
  have HRmt := Lib.hid hr_mt
  clear hr_mt
  go_wp2_with fail
  refine (refmarked_any u _ _ (held2_lies H3 HM.out)).mono ?_
  rintro e w4 ⟨rfl, hb'⟩
  have H4 := held2_call H3 hb'
  obtain ⟨d0, d1, d2, d3, d4, c0, c1, c2, c3, c4⟩ := held2_cells H4
  clear hb' H3
  cases hr_mu : u.markedB with
  | false =>
    go_wp2
    go_ret
    exact ⟨rfl, held2_below H4⟩
  | true =>
  have HRmu := Lib.hid hr_mu
  clear hr_mu
  by_cases hp1 : k < 0
  · have ep1 : decide (k < 0) = true := by simpa using hp1
    go_wp2
    go_ret
    exact ⟨rfl, held2_below H4⟩
  have ep1 : decide (k < 0) = false := by simpa using hp1
  by_cases hp2 : 1000 < k
  · have ep2 : decide (1000 < k) = true := by simpa using hp2
    go_wp2
    go_ret
    exact ⟨rfl, held2_below H4⟩
  have ep2 : decide (1000 < k) = false := by simpa using hp2
  go_wp2_with fail
  refine (refFree_any t _ _ (held2_lies H4 HL.out)).mono ?_
  rintro e w5 ⟨rfl, hb'⟩
  have H5 := held2_call H4 hb'
  obtain ⟨d0, d1, d2, d3, d4, c0, c1, c2, c3, c4⟩ := held2_cells H5
  clear hb' H4
  by_cases hp3 : 1000 < t.freeB
  · have ep3 : decide (1000 < t.freeB) = true := by simpa using hp3
    go_wp2
    go_ret
    exact ⟨rfl, held2_below H5⟩
  have ep3 : decide (1000 < t.freeB) = false := by simpa using hp3
  go_wp2_with fail
  refine (refFree_any u _ _ (held2_lies H5 HM.out)).mono ?_
  rintro e w6 ⟨rfl, hb'⟩
  have H6 := held2_call H5 hb'
  obtain ⟨d0, d1, d2, d3, d4, c0, c1, c2, c3, c4⟩ := held2_cells H6
  clear hb' H5
  by_cases hp4 : 1000 < u.freeB
  · have ep4 : decide (1000 < u.freeB) = true := by simpa using hp4
    go_wp2
    go_ret
    exact ⟨rfl, held2_below H6⟩
  have ep4 : decide (1000 < u.freeB) = false := by simpa using hp4
  have hmt : t.markedB = true := HRmt.out
  have hmu : u.markedB = true := HRmu.out
  have hrt := marked_right hmt
  have hru := marked_right hmu
  have hft := free_of hrt
  have hfu := free_of hru
  have h0i : I64 0 := by unfold I64; omega
  have HE1 := Lib.hid (eraseB_lift (k := k) hmt (by omega) (by omega) (by omega) (by omega))
  have HE2 := Lib.hid (eraseB_put hmt hmu (by omega) (by omega) (by omega))
  have HDT : Hid (t.deep ≤ 100000) := by have : t.deep ≤ 100000 := by omega
                                         exact this
  have HDU : Hid (u.deep ≤ 100000) := by have : u.deep ≤ 100000 := by omega
                                         exact this
  have HDX := Lib.hid (eraseB_deep t HDT.out)
  have HDY := Lib.hid (eraseB_deep u HDU.out)
  obtain ⟨X, hX⟩ : ∃ X, t.eraseB = X := ⟨_, rfl⟩
  obtain ⟨Y, hY⟩ : ∃ Y, u.eraseB = Y := ⟨_, rfl⟩
  rw [hX] at HE1 HE2 HDX
  rw [hY] at HE2 HDY
  have HX := Lib.hid hX
  have HY := Lib.hid hY
  clear hX hY hmt hmu hrt hru hft hfu hz_t hd_t hz_u hd_u HRmt HRmu hp1 hp2 hp3 hp4
  have HC := Lib.hid (held2_cells H6)
  have HLT := Lib.hid (held2_lies H6 HL.out)
  have HLU := Lib.hid (held2_lies H6 HM.out)
  have hK0 := kept_start w6
  have HB0 := Lib.hid (held2_below H6)
  clear H6
  go_upto_region 3 with fail
  go_cut [7, 8] (fun s7 s8 wx => TwoIn w6 X Y s7 s8 wx)
  case first =>
    go_region_held3 (fun w' => Kept w6 w' ∧ w'.cell? ⟨w.heap.size, 0, none⟩ = some (.int .i64 t.k) ∧ w'.cell? ⟨w.heap.size, 1, none⟩ = some (.int .i64 t.i) ∧ w'.cell? ⟨w.heap.size, 2, none⟩ = some (.int .i64 t.j) ∧ w'.cell? ⟨w.heap.size, 3, none⟩ = some (.int .i64 t.n) ∧ w'.cell? ⟨w.heap.size, 4, none⟩ = some (.slice a t.kids.length cap) ∧ w'.cell? ⟨w.heap.size + 1, 0, none⟩ = some (.int .i64 u.k) ∧ w'.cell? ⟨w.heap.size + 1, 1, none⟩ = some (.int .i64 u.i) ∧ w'.cell? ⟨w.heap.size + 1, 2, none⟩ = some (.int .i64 u.j) ∧ w'.cell? ⟨w.heap.size + 1, 3, none⟩ = some (.int .i64 u.n) ∧ w'.cell? ⟨w.heap.size + 1, 4, none⟩ = some (.slice a2 u.kids.length cap2))
      (((with_reducible refine kept_boxes2 ?_ HC.out); repeat (first | with_reducible assumption | with_reducible exact hK0 | with_reducible refine kept_drew ?_ | with_reducible refine kept_alloc ?_ _ | ((with_reducible refine kept_set_ ?_ ?hh _); (case hh => first | (simp; done) | (simp; omega))))))
      (first | (go_at_call 47; have mk0 := HM1.out; have hS := (‹Kept w6 _ ∧ _›).1; have hcall := erase_any u _ _ (kept_lies hS HLU.out); ((with_reducible refine Calls.mono hcall ?_); rintro e wb ⟨s9, rfl, hl9, hbb⟩; clear hcall; have hkb := kept_call hS hbb; have hsb : w6.heap.size ≤ wb.heap.size := Below.size hkb; rw [HY.out] at hl9 ⊢; obtain ⟨a9, cap9, rfl, -, -⟩ := hl9.out; have HM2 := Lib.hid hl9.lies; (first | ((with_reducible have hW : Below wa.heap.size wa wb := hbb); have HW := Lib.hid hW; have HYP := Lib.hid (hl9.from (B' := wa.heap.size) (Nat.le_refl _)); clear hW hl9) | ((with_reducible have hb1 : Below _ (wa.alloc zeroObj) wb := hbb); have HW := Lib.hid (mid_one hb1).1; have hzq := (mid_one hb1).2; have HQ1 := Lib.hid hzq; have hsq := block_lt hzq; obtain ⟨q0, q1, q2, q3, q4⟩ := five_cells hzq; obtain ⟨qf0, qf1, qf2, qf3, qf4⟩ := five_free hzq; have HYP := Lib.hid (hl9.from (B' := wa.heap.size + 1) (by simp)); clear hb1 hzq hl9) | ((with_reducible have hb2 : Below _ ((wa.alloc zeroObj).alloc zeroObj) wb := hbb); have HW := Lib.hid (mid_two hb2).1; have hzq := (mid_two hb2).2.1; have HQ1 := Lib.hid hzq; have hsq := block_lt hzq; obtain ⟨q0, q1, q2, q3, q4⟩ := five_cells hzq; obtain ⟨qf0, qf1, qf2, qf3, qf4⟩ := five_free hzq; have hzr := (mid_two hb2).2.2; have HQ2 := Lib.hid hzr; have hsr := block_lt hzr; obtain ⟨r0, r1, r2, r3, r4⟩ := five_cells hzr; obtain ⟨rf0, rf1, rf2, rf3, rf4⟩ := five_free hzr; have HYP := Lib.hid (hl9.from (B' := wa.heap.size + 2) (by simp)); clear hb2 hzq hzr hl9)); (try (have hzp := keep_block HW.out (block_lt HP1.out) HP1.out; have HP1 := Lib.hid hzp; have hsp := block_lt hzp; obtain ⟨p0, p1, p2, p3, p4⟩ := five_cells hzp; obtain ⟨pf0, pf1, pf2, pf3, pf4⟩ := five_free hzp; clear hzp)); (try (have hzp := keep_block HW.out (block_lt HP.out.1) HP.out.1; have hzo := keep_block HW.out (block_lt HP.out.2) HP.out.2; have HP := Lib.hid (And.intro hzp hzo); have hsp := block_lt hzp; have hso := block_lt hzo; obtain ⟨p0, p1, p2, p3, p4⟩ := five_cells hzp; obtain ⟨pf0, pf1, pf2, pf3, pf4⟩ := five_free hzp; obtain ⟨o0, o1, o2, o3, o4⟩ := five_cells hzo; obtain ⟨of0, of1, of2, of3, of4⟩ := five_free hzo; clear hzp hzo)); have HM3 := Lib.hid (mk0.keep HW.out); obtain ⟨-, x00, x01, x02, x03, x04, x10, x11, x12, x13, x14⟩ := kept_boxes2 hkb HC.out)) | (go_at_call 47; have hS := (‹Kept w6 _ ∧ _›).1; have hcall := erase_any t _ _ (kept_lies hS HLT.out); ((with_reducible refine Calls.mono hcall ?_); rintro e wa ⟨s8, rfl, hl8, hba⟩; clear hcall; have hka := kept_call hS hba; have hsa : w6.heap.size ≤ wa.heap.size := Below.size hka; rw [HX.out] at hl8 ⊢; obtain ⟨a8, cap8, rfl, -, -⟩ := hl8.out; have HM1 := Lib.hid hl8.lies; (first | ((with_reducible have hb2 : Below _ ((w6.alloc zeroObj).alloc zeroObj).drew wa := hba); have HP := Lib.hid (pre_two hb2); have hsa2 : w6.heap.size + 1 < wa.heap.size := block_lt HP.out.2; have HXP := Lib.hid (hl8.from (B' := w6.heap.size + 2) (by show w6.heap.size + 2 ≤ ((w6.alloc zeroObj).alloc zeroObj).heap.size; simp)); clear hb2 hl8) | ((with_reducible have hb1 : Below _ (w6.alloc zeroObj).drew wa := hba); have HP1 := Lib.hid (pre_one hb1); have hsa1 : w6.heap.size < wa.heap.size := block_lt HP1.out; have HXP := Lib.hid (hl8.from (B' := w6.heap.size + 1) (by show w6.heap.size + 1 ≤ (w6.alloc zeroObj).heap.size; simp)); clear hb1 hl8) | (have HXP := Lib.hid (hl8.from (B' := w6.heap.size) (Nat.le_refl _)); clear hl8)); obtain ⟨-, x00, x01, x02, x03, x04, x10, x11, x12, x13, x14⟩ := kept_boxes2 hka HC.out)))
    all_goals (go_wp2_with fail; go_meet; case rel => first | ((with_reducible refine two_s1 hkb HW.out HXP.out HYP.out)) | ((with_reducible refine two_s2 hkb HW.out HXP.out HYP.out)) | ((with_reducible refine two_s3a hkb HW.out HXP.out HYP.out HQ1.out ?_ ?_ ?_) <;> omega) | ((with_reducible refine two_s3a hkb HW.out HXP.out HYP.out HP1.out ?_ ?_ ?_) <;> omega) | ((with_reducible refine two_s3b hkb HW.out HXP.out HYP.out HQ1.out ?_ ?_ ?_) <;> omega) | ((with_reducible refine two_s3b hkb HW.out HXP.out HYP.out HP1.out ?_ ?_ ?_) <;> omega) | ((with_reducible refine two_s4 hkb HW.out HXP.out HYP.out HQ1.out HQ2.out ?_ ?_ ?_ ?_ ?_ ?_ ?_) <;> omega) | ((with_reducible refine two_s4 hkb HW.out HXP.out HYP.out HQ2.out HQ1.out ?_ ?_ ?_ ?_ ?_ ?_ ?_) <;> omega) | ((with_reducible refine two_s4 hkb HW.out HXP.out HYP.out HP1.out HQ1.out ?_ ?_ ?_ ?_ ?_ ?_ ?_) <;> omega) | ((with_reducible refine two_s4 hkb HW.out HXP.out HYP.out HQ1.out HP1.out ?_ ?_ ?_ ?_ ?_ ?_ ?_) <;> omega) | ((with_reducible refine two_s4 hkb HW.out HXP.out HYP.out HP.out.1 HP.out.2 ?_ ?_ ?_ ?_ ?_ ?_ ?_) <;> omega) | ((with_reducible refine two_s4 hkb HW.out HXP.out HYP.out HP.out.2 HP.out.1 ?_ ?_ ?_ ?_ ?_ ?_ ?_) <;> omega))
  case rest =>
    obtain ⟨bx, bY, ax, ay, cx, cy, rfl, rfl, hkc, hbx, hby, hlx, hly⟩ := hcut
    have HLX := Lib.hid hlx
    have HLY := Lib.hid hly
    have HLT := Lib.hid (kept_lies hkc HLT.out)
    have HLU := Lib.hid (kept_lies hkc HLU.out)
    have hc12 := (kept_boxes2 hkc HC.out).2
    have hcx := five_cells hbx
    have hcy := five_cells hby
    have HC := Lib.hid (and_five ⟨hc12.1, hc12.2.1, hc12.2.2.1, hc12.2.2.2.1, hc12.2.2.2.2.1⟩ (and_five ⟨hc12.2.2.2.2.2.1, hc12.2.2.2.2.2.2.1, hc12.2.2.2.2.2.2.2.1, hc12.2.2.2.2.2.2.2.2.1, hc12.2.2.2.2.2.2.2.2.2⟩ (and_five hcx hcy)))
    have HB0 := Lib.hid (HB0.out.trans (Below.mono hkc HB0.out.size))
    have hK0 := kept_start wc
    clear hkc hbx hby hlx hly hc12 hcx hcy
    obtain ⟨A, hA⟩ : ∃ A, X.liftB k 0 = A := ⟨_, rfl⟩
    obtain ⟨B, hB⟩ : ∃ B, X.putB Y = B := ⟨_, rfl⟩
    rw [hA] at HE1
    rw [hB] at HE2
    have HAA := Lib.hid hA
    have HBB := Lib.hid hB
    clear hA hB
    obtain ⟨x00, x01, x02, x03, x04, x10, x11, x12, x13, x14, x20, x21, x22, x23, x24, x30, x31, x32, x33, x34⟩ := HC.out
    go_wp2_with fail
    go_region_held3 (fun w' => Kept wc w' ∧ w'.cell? ⟨w.heap.size, 0, none⟩ = some (.int .i64 t.k) ∧ w'.cell? ⟨w.heap.size, 1, none⟩ = some (.int .i64 t.i) ∧ w'.cell? ⟨w.heap.size, 2, none⟩ = some (.int .i64 t.j) ∧ w'.cell? ⟨w.heap.size, 3, none⟩ = some (.int .i64 t.n) ∧ w'.cell? ⟨w.heap.size, 4, none⟩ = some (.slice a t.kids.length cap) ∧ w'.cell? ⟨w.heap.size + 1, 0, none⟩ = some (.int .i64 u.k) ∧ w'.cell? ⟨w.heap.size + 1, 1, none⟩ = some (.int .i64 u.i) ∧ w'.cell? ⟨w.heap.size + 1, 2, none⟩ = some (.int .i64 u.j) ∧ w'.cell? ⟨w.heap.size + 1, 3, none⟩ = some (.int .i64 u.n) ∧ w'.cell? ⟨w.heap.size + 1, 4, none⟩ = some (.slice a2 u.kids.length cap2) ∧ w'.cell? ⟨bx, 0, none⟩ = some (.int .i64 X.k) ∧ w'.cell? ⟨bx, 1, none⟩ = some (.int .i64 X.i) ∧ w'.cell? ⟨bx, 2, none⟩ = some (.int .i64 X.j) ∧ w'.cell? ⟨bx, 3, none⟩ = some (.int .i64 X.n) ∧ w'.cell? ⟨bx, 4, none⟩ = some (.slice ax X.kids.length cx) ∧ w'.cell? ⟨bY, 0, none⟩ = some (.int .i64 Y.k) ∧ w'.cell? ⟨bY, 1, none⟩ = some (.int .i64 Y.i) ∧ w'.cell? ⟨bY, 2, none⟩ = some (.int .i64 Y.j) ∧ w'.cell? ⟨bY, 3, none⟩ = some (.int .i64 Y.n) ∧ w'.cell? ⟨bY, 4, none⟩ = some (.slice ay Y.kids.length cy))
      (((with_reducible refine kept_boxes4 ?_ HC.out); repeat (first | with_reducible assumption | with_reducible exact hK0 | with_reducible refine kept_drew ?_ | with_reducible refine kept_alloc ?_ _)))
      (first | (go_at_call 49; have hS := (‹Kept wc _ ∧ _›).1; ((refine (wakes8_any _).mono ?_); rintro e wn ⟨rfl, hbn⟩; have hh := kept_call hS hbn; obtain ⟨-, x00, x01, x02, x03, x04, x10, x11, x12, x13, x14, x20, x21, x22, x23, x24, x30, x31, x32, x33, x34⟩ := kept_boxes4 hh HC.out)) | (go_at_call 33; have mk0 := HB1.out; have mk1 := HB2.out; have hS := (‹Kept wc _ ∧ _›).1; have hcall := keepsame_eq B _ _ _ mk0 mk1; ((with_reducible refine Calls.mono hcall ?_); rintro e wn ⟨rfl, hbn⟩; clear hcall; have hh := kept_call hS hbn; obtain ⟨-, x00, x01, x02, x03, x04, x10, x11, x12, x13, x14, x20, x21, x22, x23, x24, x30, x31, x32, x33, x34⟩ := kept_boxes4 hh HC.out)) | (go_at_call 37; have mk0 := HB1.out; have hS := (‹Kept wc _ ∧ _›).1; have hcall := put_any X Y _ _ _ (kept_lies hS HLX.out) (kept_lies hS HLY.out) HDX.out HDY.out; ((with_reducible refine Calls.mono hcall ?_); rintro e wn ⟨s15, rfl, hl15, hbn⟩; clear hcall; have hh := kept_call hS hbn; rw [HBB.out] at hl15 ⊢; obtain ⟨a15, cap15, rfl, -, -⟩ := hl15.out; have HB2 := Lib.hid hl15.lies; clear hl15; have HB1 := Lib.hid (HB1.out.keep hbn); obtain ⟨-, x00, x01, x02, x03, x04, x10, x11, x12, x13, x14, x20, x21, x22, x23, x24, x30, x31, x32, x33, x34⟩ := kept_boxes4 hh HC.out)) | (go_at_call 47; have mk0 := HP1.out; have hS := (‹Kept wc _ ∧ _›).1; have hcall := erase_any (t.putB u) _ _ mk0; ((with_reducible refine Calls.mono hcall ?_); rintro e wn ⟨s14, rfl, hl14, hbn⟩; clear hcall; have hh := kept_call hS hbn; rw [HE2.out] at hl14 ⊢; obtain ⟨a14, cap14, rfl, -, -⟩ := hl14.out; have HB1 := Lib.hid hl14.lies; clear hl14; obtain ⟨-, x00, x01, x02, x03, x04, x10, x11, x12, x13, x14, x20, x21, x22, x23, x24, x30, x31, x32, x33, x34⟩ := kept_boxes4 hh HC.out)) | (go_at_call 37; have mk0 := HA1.out; have hS := (‹Kept wc _ ∧ _›).1; have hcall := put_any t u _ _ _ (kept_lies hS HLT.out) (kept_lies hS HLU.out) HDT.out HDU.out; ((with_reducible refine Calls.mono hcall ?_); rintro e wn ⟨s13, rfl, hl13, hbn⟩; clear hcall; have hh := kept_call hS hbn; obtain ⟨a13, cap13, rfl, -, -⟩ := hl13.out; have HP1 := Lib.hid hl13.lies; clear hl13; obtain ⟨-, x00, x01, x02, x03, x04, x10, x11, x12, x13, x14, x20, x21, x22, x23, x24, x30, x31, x32, x33, x34⟩ := kept_boxes4 hh HC.out)) | (go_at_call 33; have mk0 := HA1.out; have mk1 := HA2.out; have hS := (‹Kept wc _ ∧ _›).1; have hcall := keepsame_eq A _ _ _ mk0 mk1; ((with_reducible refine Calls.mono hcall ?_); rintro e wn ⟨rfl, hbn⟩; clear hcall; have hh := kept_call hS hbn; obtain ⟨-, x00, x01, x02, x03, x04, x10, x11, x12, x13, x14, x20, x21, x22, x23, x24, x30, x31, x32, x33, x34⟩ := kept_boxes4 hh HC.out)) | (go_at_call 48; have mk0 := HA1.out; have hS := (‹Kept wc _ ∧ _›).1; have hcall := lift_any X k 0 _ _ (kept_lies hS HLX.out) hk h0i HDX.out; ((with_reducible refine Calls.mono hcall ?_); rintro e wn ⟨s12, rfl, hl12, hbn⟩; clear hcall; have hh := kept_call hS hbn; rw [HAA.out] at hl12 ⊢; obtain ⟨a12, cap12, rfl, -, -⟩ := hl12.out; have HA2 := Lib.hid hl12.lies; clear hl12; have HA1 := Lib.hid (HA1.out.keep hbn); obtain ⟨-, x00, x01, x02, x03, x04, x10, x11, x12, x13, x14, x20, x21, x22, x23, x24, x30, x31, x32, x33, x34⟩ := kept_boxes4 hh HC.out)) | (go_at_call 47; have mk0 := HL1.out; have hS := (‹Kept wc _ ∧ _›).1; have hcall := erase_any (t.liftB k 0) _ _ mk0; ((with_reducible refine Calls.mono hcall ?_); rintro e wn ⟨s11, rfl, hl11, hbn⟩; clear hcall; have hh := kept_call hS hbn; rw [HE1.out] at hl11 ⊢; obtain ⟨a11, cap11, rfl, -, -⟩ := hl11.out; have HA1 := Lib.hid hl11.lies; clear hl11; obtain ⟨-, x00, x01, x02, x03, x04, x10, x11, x12, x13, x14, x20, x21, x22, x23, x24, x30, x31, x32, x33, x34⟩ := kept_boxes4 hh HC.out)) | (go_at_call 48; have hS := (‹Kept wc _ ∧ _›).1; have hcall := lift_any t k 0 _ _ (kept_lies hS HLT.out) hk h0i HDT.out; ((with_reducible refine Calls.mono hcall ?_); rintro e wn ⟨s10, rfl, hl10, hbn⟩; clear hcall; have hh := kept_call hS hbn; obtain ⟨a10, cap10, rfl, -, -⟩ := hl10.out; have HL1 := Lib.hid hl10.lies; clear hl10; obtain ⟨-, x00, x01, x02, x03, x04, x10, x11, x12, x13, x14, x20, x21, x22, x23, x24, x30, x31, x32, x33, x34⟩ := kept_boxes4 hh HC.out)))
    go_wp2
    go_ret
    exact ⟨rfl, HB0.out.trans (hh.mono HB0.out.size)⟩
end Go.Proofs.Ytjoolpmaehnhpaa
