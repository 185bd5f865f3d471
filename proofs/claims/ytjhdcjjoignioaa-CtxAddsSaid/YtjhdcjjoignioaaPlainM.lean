/-
  strip.plain makes a term of some of the stripped kids of another one.
-/
import Derived.Test.YtjhdcjjoignioaaEnds
import Derived.Test.YtjhdcjjoignioaaInts
import Derived.Test.YtjhdcjjoignioaaBare
import Derived.Deep.RegionHeld3
namespace Go.Proofs.Ytjhdcjjoignioaa
open Go.RowKit

/-- The maker's blocks: the boxed term, the result, the list (N + 2), the term that is built (M). -/
structure Desk2 (w : World) (M : Nat) (t u : Tm) (s v : Value) (w' : World) : Prop where
  under : Below w.heap.size w w'
  above : w.heap.size + 3 ≤ M
  box : w'.heap[w.heap.size]? = some (boxOf t s)
  res : w'.heap[w.heap.size + 1]? = some zeroObj
  made : w'.heap[M]? = some (boxOf u v)
theorem Desk2.size {w w' : World} {M : Nat} {t u : Tm} {s v : Value} (h : Desk2 w M t u s v w') : M < w'.heap.size := (Array.getElem?_eq_some_iff.1 h.made).1
theorem Desk2.later {w w1 w2 : World} {M : Nat} {t u : Tm} {s v : Value} (h : Desk2 w M t u s v w1) (hb : Below w1.heap.size w1 w2) : Desk2 w M t u s v w2 := by
  have hs := h.size
  have ha := h.above
  exact ⟨h.under.trans (hb.mono (by omega)), ha, by rw [hb.block _ (by omega)]; exact h.box, by rw [hb.block _ (by omega)]; exact h.res, by rw [hb.block _ (by omega)]; exact h.made⟩
theorem Desk2.set {w w1 : World} {M : Nat} {t u : Tm} {s v : Value} (h : Desk2 w M t u s v w1) (o : Nat) (x : Value) : Desk2 w M t u s v (w1.setCell ⟨w.heap.size + 2, o, none⟩ x) := by
  have ha := h.above
  exact ⟨h.under.setCell (by simp) _, ha, by rw [Below.heap_setCell _ _ _ _ (by show w.heap.size ≠ w.heap.size + 2; omega)]; exact h.box, by rw [Below.heap_setCell _ _ _ _ (by show w.heap.size + 1 ≠ w.heap.size + 2; omega)]; exact h.res, by rw [Below.heap_setCell _ _ _ _ (by show M ≠ w.heap.size + 2; omega)]; exact h.made⟩
theorem Desk2.drew {w w1 : World} {M : Nat} {t u : Tm} {s v : Value} (h : Desk2 w M t u s v w1) : Desk2 w M t u s v w1.drew := ⟨h.under.drew, h.above, h.box, h.res, h.made⟩
theorem desk2_and {w w' : World} {M : Nat} {t u x : Tm} {s v sx : Value} {b o : Nat} (h : Desk2 w M t u s v w') (hx : Node w b o x sx) : Desk2 w M t u s v w' ∧ w'.cell? ⟨w.heap.size, 4, none⟩ = some s ∧ w'.cell? ⟨M, 4, none⟩ = some v ∧
    w'.cell? ⟨b, o, none⟩ = some (.int .i64 x.k) ∧ w'.cell? ⟨b, o + 1, none⟩ = some (.int .i64 x.i) ∧ w'.cell? ⟨b, o + 2, none⟩ = some (.int .i64 x.j) ∧ w'.cell? ⟨b, o + 3, none⟩ = some (.int .i64 x.n) ∧ w'.cell? ⟨b, o + 4, none⟩ = some sx := by
  obtain ⟨-, -, -, -, d4⟩ := five_cells h.box
  obtain ⟨-, -, -, -, e4⟩ := five_cells h.made
  obtain ⟨c0, c1, c2, c3, c4⟩ := hx.below h.under hx.lt
  exact ⟨h, d4, e4, c0, c1, c2, c3, c4⟩
/-- The blocks as they stand when the list has been made. -/
theorem desk2_start {w w1 : World} {t : Tm} {K : Int} {s v : Value} (hb : Below (w.heap.size + 2) ((w.alloc (boxOf t s)).alloc zeroObj) w1) (hs : w.heap.size + 3 ≤ w1.heap.size) : Desk2 w w1.heap.size t (.mk K 0 0 0 []) s v (w1.alloc (.cells #[.int .i64 K, .int .i64 0, .int .i64 0, .int .i64 0, v] 26)) := by
  have h0 : ((w.alloc (boxOf t s)).alloc zeroObj).heap[w.heap.size]? = some (boxOf t s) := by rw [Below.heap_alloc _ _ _ (by simp), alloc_new]
  have h1 : ((w.alloc (boxOf t s)).alloc zeroObj).heap[w.heap.size + 1]? = some zeroObj := heap_alloc2_new _ _ _
  refine ⟨?_, hs, ?_, ?_, alloc_new _ _⟩
  · exact ((((Below.refl _ _).alloc (Nat.le_refl _) _).alloc (by simp) _).trans (hb.mono (by omega))).alloc (by omega) _
  · rw [Below.heap_alloc _ _ _ (by omega), hb.block _ (by omega)]; exact h0
  · rw [Below.heap_alloc _ _ _ (by omega), hb.block _ (by omega)]; exact h1

/-- What strip.plain is to make: the kids that are picked, stripped. -/
def picked (t : Tm) (pk : List Nat) : List Tm := pk.map fun p => ((t.kids[p]?).getD .zero).bare

set_option maxRecDepth 20000 in
set_option maxHeartbeats 2000000 in
theorem plain_of (t : Tm) (ih : ∀ x ∈ t.kids, ∀ (w : World) (s : Value), Lies w x.kids s → x.rightB = true → Calls Try.prog 72 #[tv x s] w (Makes x.bare w)) (hr : ∀ x ∈ t.kids, x.rightB = true)
    (K : Int) (pk : List Nat) (hpk : ∀ p ∈ pk, p < t.kids.length) (hp4 : pk.length ≤ 4) (w : World) (s st : Value) (hl : Lies w t.kids s) (hti : LiesI w (pk.map fun (p : Nat) => (p : Int)) st) :
    Calls Try.prog 85 #[.int .i64 K, tv t s, st] w (Makes (.mk K 0 0 0 (picked t pk)) w) := by
  obtain ⟨a, cap, S, rfl, hc, hm, -, hn, hkk⟩ := hl.out
  obtain ⟨ta, tcap, rfl, htc, htm, htn⟩ := hti.out
  rw [List.length_map] at htc
  replace htn : ∀ i (h : i < pk.length), ∃ b o, ta = some ⟨b, o, none⟩ ∧ w.cell? ⟨b, o + i, none⟩ = some (.int .i64 (pk[i] : Int)) := fun i h => by
    have := htn i (by rw [List.length_map]; exact h)
    simpa using this
  simp only [List.length_map]
  obtain ⟨du, hu1, hu2⟩ := under_term
  unfold maxLen at hm htm
  have IH := Lib.hid ih
  have HR := Lib.hid hr
  have HPK := Lib.hid hpk
  have HN := Lib.hid hn
  have HK := Lib.hid hkk
  have HTN := Lib.hid htn
  clear ih hr hpk hn hkk htn hl hti
  unfold tv
  obtain ⟨i0, hi, hz0, hz1, hz2⟩ := info_parts info_term
  have HI := Lib.hid (And.intro hi (And.intro hz0 (And.intro hz1 hz2)))
  clear hi hz0 hz1 hz2
  go_enter Try.func85, Try.ntmps85
  go_wp2_with (at_make; refine wpList_make_full _ rfl _ _ 24 rfl (w.heap.size + 2) 26 i0 _ 5 (by kernel_rfl) HI.out.1 HI.out.2.1 HI.out.2.2.1 _ _ _ _ pk.length rfl rfl rfl rfl ?bytes ?max ?base ?next)
  case bytes => rw [HI.out.2.2.2]; omega
  case max => unfold maxLen; omega
  case base => simp
  case next =>
  intro w1 hown hgrow
  have hful := full_made hown
  have hbel : Below (w.heap.size + 2) _ w1 := (Below.refl _ _).grown hgrow (by simp) (by simp)
  have hs1 : w.heap.size + 3 ≤ w1.heap.size := by
    obtain ⟨cs, hcs⟩ := hful.open'
    have := (Array.getElem?_eq_some_iff.1 hcs).1
    omega
  have hd0 := desk2_start (K := K) (v := .slice (some ⟨w.heap.size + 2, 0, none⟩) pk.length pk.length) hbel hs1
  have hf0 := hful.later ((Below.refl _ _).alloc (Nat.le_refl _) (.cells #[.int .i64 K, .int .i64 0, .int .i64 0, .int .i64 0, .slice (some ⟨w.heap.size + 2, 0, none⟩) pk.length pk.length] 26))
  clear hbel hgrow hown hful
  obtain ⟨M, hM⟩ : ∃ M, w1.heap.size = M := ⟨_, rfl⟩
  rw [hM] at hd0 hs1
  have HM := Lib.hid hM
  go_wp2_with fail
  clear hM
  go_loopw [17] (fun i wr => ∃ (q : Nat) (xs : List (Tm × Value)), q ≤ pk.length ∧ i = .int .i64 q ∧ Hid (xs.length = pk.length) ∧ Hid ((xs.map (·.1)).take q = (picked t pk).take q) ∧ Full (w.heap.size + 2) wr (w.heap.size + 2) xs ∧ Desk2 w M t (.mk K 0 0 0 []) (.slice a t.kids.length cap) (.slice (some ⟨w.heap.size + 2, 0, none⟩) pk.length pk.length) wr) (fun i _ => pk.length - (intOf i).toNat)
  case atStart => exact ⟨0, _, Nat.zero_le _, rfl, List.length_replicate, rfl, hf0, hd0⟩
  case round =>
    clear hf0 hd0
    obtain ⟨q, xs, hq0, rfl, hxl, hxs, hfu, hdk⟩ := hrel
    have HXL := Lib.hid hxl.out
    have HXS := Lib.hid hxs.out
    clear hxl hxs
    obtain ⟨d0, d1, d2, d3, d4⟩ := five_cells hdk.box
    obtain ⟨y0, y1, y2, y3, y4⟩ := five_cells hdk.made
    obtain ⟨z0, z1, z2, z3, z4⟩ := five_cells hdk.res
    obtain ⟨f0, f1, f2, f3, f4⟩ := five_free hdk.res
    have hsz := hdk.size
    by_cases hlt : q < pk.length
    · obtain ⟨p, hp⟩ : ∃ p, pk[q] = p := ⟨_, rfl⟩
      have hplt : p < t.kids.length := HPK.out p (by rw [← hp]; exact List.getElem_mem hlt)
      obtain ⟨b9, o9, rfl, hx9⟩ := HTN.out q hlt
      rw [hp] at hx9
      have hc9 := cell_lat hdk.under hx9
      obtain ⟨b', o, rfl, hx⟩ := HN.out p hplt
      have hq := HK.out p hplt
      obtain ⟨a', cap', S', hS, -⟩ := hq.out
      rw [hS] at hx hq
      have hkid : (t.kids[p]?).getD .zero = t.kids[p] := by rw [List.getElem?_eq_getElem hplt]; rfl
      have HMem := Lib.hid (List.getElem_mem hplt)
      have hrk := HR.out _ HMem.out
      have hfx := right_fine (plain_right (bare_plain _ hrk))
      have CALL := Lib.hid (IH.out _ HMem.out wr.drew _ (hq.keep (hdk.under.trans (Below.refl _ _).drew)) hrk)
      have hpick : (picked t pk).take (q + 1) = (picked t pk).take q ++ [(t.kids[p]).bare] := by
        rw [List.take_succ_eq_append_getElem (by unfold picked; rw [List.length_map]; exact hlt)]
        congr 2
        simp only [picked, List.getElem_map, hp, hkid]
      obtain ⟨x, hxb⟩ : ∃ x, (t.kids[p]).bare = x := ⟨_, rfl⟩
      rw [hxb] at CALL hfx hpick
      have hxq : q < xs.length := by rw [HXL.out]; exact hlt
      have HFX := Lib.hid hfx
      have HPICK := Lib.hid hpick
      have HFU := Lib.hid hfu
      have hnode := hx
      obtain ⟨c0, c1, c2, c3, c4⟩ := hx.below hdk.under hx.lt
      clear hS hq hx hfx hpick hxb hkid hrk hp hx9 hfu
      go_wp2_with fail
      go_region_held3 (fun w' => Desk2 w M t (.mk K 0 0 0 []) (.slice (some ⟨b', o, none⟩) t.kids.length cap) (.slice (some ⟨w.heap.size + 2, 0, none⟩) pk.length pk.length) w' ∧ w'.cell? ⟨w.heap.size, 4, none⟩ = some (.slice (some ⟨b', o, none⟩) t.kids.length cap) ∧ w'.cell? ⟨M, 4, none⟩ = some (.slice (some ⟨w.heap.size + 2, 0, none⟩) pk.length pk.length) ∧ w'.cell? ⟨b', o + p * 5, none⟩ = some (.int .i64 t.kids[p].k) ∧ w'.cell? ⟨b', o + p * 5 + 1, none⟩ = some (.int .i64 t.kids[p].i) ∧ w'.cell? ⟨b', o + p * 5 + 2, none⟩ = some (.int .i64 t.kids[p].j) ∧ w'.cell? ⟨b', o + p * 5 + 3, none⟩ = some (.int .i64 t.kids[p].n) ∧ w'.cell? ⟨b', o + p * 5 + 4, none⟩ = some (.slice a' t.kids[p].kids.length cap'))
        (((with_reducible refine desk2_and ?_ hnode); repeat (first | with_reducible assumption | with_reducible exact hdk | with_reducible refine Desk2.drew ?_ | with_reducible refine Desk2.set ?_ _ _)))
        (first | (go_at_call 72; ((with_reducible refine Calls.mono CALL.out ?_); rintro e wn ⟨s2, rfl, hl2, hbn⟩; obtain ⟨a2, cap2, rfl, -, -⟩ := hl2.out; have hd2 := Desk2.later (Desk2.drew hdk) hbn; have hfw := (HFU.out.later (Below.refl _ _).drew).later hbn; obtain ⟨x0, x1, x2, x3, x4⟩ := hfw.node q hxq; obtain ⟨cs, hcs⟩ := hfw.open'; have g0 := open_unfrozen hcs (q * 5); have g1 := open_unfrozen hcs (q * 5 + 1); have g2 := open_unfrozen hcs (q * 5 + 2); have g3 := open_unfrozen hcs (q * 5 + 3); have g4 := open_unfrozen hcs (q * 5 + 4); have HLF := Lib.hid (HFU.out.fresh (w2 := wn) (by have := hdk.above; omega) hl2); have HFW := Lib.hid hfw; have HD2 := Lib.hid hd2; clear hcs hfw hl2 hbn)))
      go_wp2_with fail
      go_roundw
      case rel => exact ⟨q + 1, xs.set q (x, .slice a2 x.kids.length cap2), hlt, by go_num, by simp [Hid, HXL.out], by rw [Hid, List.map_set, take_set_next _ _ _ (by simpa using hxq), HXS.out, HPICK.out], HFW.out.fill hxq HFX.out HLF.out, ((((HD2.out.set _ _).set _ _).set _ _).set _ _).set _ _⟩
      case measure => simp [intOf]; omega
    · have : q = pk.length := by omega
      subst this
      have hres : xs.map (·.1) = picked t pk := by
        have h1 := HXS.out
        rw [List.take_of_length_le (by rw [List.length_map, HXL.out]; exact Nat.le_refl _), List.take_of_length_le (by unfold picked; rw [List.length_map]; exact Nat.le_refl _)] at h1
        exact h1
      have hll := hfu.lies (cap := pk.length) (by rw [HXL.out]; exact Nat.le_refl _) (by unfold maxLen; omega)
      rw [hres, HXL.out] at hll
      have HLL := Lib.hid hll
      have HPL : Hid ((picked t pk).length = pk.length) := by simp [Hid, picked]
      have q1 := hdk.res
      clear hres hll hfu
      go_wp2
      (try simp only [Exit.inBlock, Exit.then])
      refine bodyPost_ret (results_cell_row rfl _ _ (w.heap.size + 1) _ _ _ du rfl (five_set q1) hu1 (by cases du <;> first | rfl | exact hu2) size_term) rfl ?_
      refine ⟨.slice (some ⟨w.heap.size + 2, 0, none⟩) pk.length pk.length, rfl, ?_, below_five hdk.under (by omega) _ _ _ _ _⟩
      exact liesP_fives HLL.out (by omega) (by omega) _ _ _ _ _
end Go.Proofs.Ytjhdcjjoignioaa
