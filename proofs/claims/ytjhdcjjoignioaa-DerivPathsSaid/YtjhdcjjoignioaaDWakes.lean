/-
  The layer's own sentence, transhiplaw12.wakes, is true.
-/
import Derived.Test.YtjhdcjjoignioaaDAt
import Derived.Test.YtjhdcjjoignioaaDWord
import Derived.Test.YtjhdcjjoignioaaDRight
import Derived.Test.YtjhdcjjoignioaaDDeep
import Derived.Test.YtjhdcjjoignioaaBareM
namespace Go.Proofs.Ytjhdcjjoignioaa.Dv
open Go.RowKit

def wkD : Tm := .mk 11 0 [.mk 1 3 []]
def wkW (w : World) : World := (w.alloc (.cells #[.int .i64 1, .int .i64 3, .slice none 0 0] 53)).alloc (.cells #[.int .i64 11, .int .i64 0, .slice (some ⟨w.heap.size, 0, none⟩) 1 1] 53)
theorem wk_heap (w : World) : (wkW w).heap[w.heap.size]? = some (.cells #[.int .i64 1, .int .i64 3, .slice none 0 0] 53) ∧ (wkW w).heap[w.heap.size + 1]? = some (.cells #[.int .i64 11, .int .i64 0, .slice (some ⟨w.heap.size, 0, none⟩) 1 1] 53) := by
  refine ⟨?_, ?_⟩
  · unfold wkW
    rw [Below.heap_alloc _ _ _ (by simp), alloc_new]
  · have := alloc_new (w.alloc (.cells #[.int .i64 1, .int .i64 3, .slice none 0 0] 53)) (.cells #[.int .i64 11, .int .i64 0, .slice (some ⟨w.heap.size, 0, none⟩) 1 1] 53)
    simpa [wkW] using this
theorem wk_lies (w : World) : Lies (wkW w) wkD.kids (.slice (some ⟨w.heap.size, 0, none⟩) 1 1) := by
  obtain ⟨h0, -⟩ := wk_heap w
  have c0 := fun q => cell_of_row (wkW w) w.heap.size q _ _ _ h0
  refine Lies.mk [.mk 1 3 []] (some ⟨w.heap.size, 0, none⟩) 1 (fun _ => .slice none 0 0) (Nat.le_refl _) (by decide) ?_ ?_ ?_
  · intro x hx
    rw [List.mem_singleton.1 hx]
    simp [Tm.fine, I64, Tm.k, Tm.i]
  · intro i hi
    obtain rfl : i = 0 := by simpa using hi
    exact ⟨_, _, rfl, ⟨by rw [c0]; rfl, by rw [c0]; rfl, by rw [c0]; rfl⟩⟩
  · intro i hi
    obtain rfl : i = 0 := by simpa using hi
    exact lies_nil _
theorem wk_below (w : World) : Below w.heap.size w (wkW w) := ((Below.refl _ _).alloc (Nat.le_refl _) _).alloc (by simp) _

set_option maxRecDepth 20000 in
set_option maxHeartbeats 2000000 in
theorem wakes12_any (w : World) : Calls Try.prog 34 #[] w fun e w' => e = .returned (.bool true) ∧ Below w.heap.size w w' := by
  have hL := wk_lies w
  have hB := wk_below w
  obtain ⟨-, q1⟩ := wk_heap w
  obtain ⟨d0, d1, d2⟩ := five_cells q1
  have hA : Below (wkW w).heap.size (wkW w) ((wkW w).alloc (.cells #[.int .i64 0] 3)) := (Below.refl _ _).alloc (Nat.le_refl _) _
  have hI := liesI_new (l := [0]) (alloc_new (wkW w) (.cells #[.int .i64 0] 3)) (by decide)
  have hsz : (wkW w).heap.size = w.heap.size + 1 + 1 := by simp [wkW]
  rw [hsz] at hI
  have hc1 := dat_any wkD [0] _ _ _ (hL.keep hA) hI (by decide)
  clear hsz
  rw [show wkD.at [0] = some (.mk 1 3 []) from rfl] at hc1
  go_enter Try.func34, Try.ntmps34
  go_wp2_with fail
  refine hc1.mono ?_
  rintro e w3 ⟨⟨s3, he, hl3⟩, hb3⟩
  replace he : e = .returned (.tuple #[.agg #[.int .i64 1, .int .i64 3, s3], .bool true]) := he
  subst he
  have hbA := hA.trans (hb3.mono hA.size)
  have q3 := (hbA.block _ (Array.getElem?_eq_some_iff.1 q1).1).trans q1
  have hL3 := Lib.hid (hL.keep hbA)
  have hB3 := hB.trans (hbA.mono hB.size)
  obtain ⟨a3, cap3, S3, rfl, -⟩ := hl3.out
  have hs3 : w.heap.size + 1 < w3.heap.size := (Array.getElem?_eq_some_iff.1 q3).1
  clear d0 d1 d2 hb3 hl3 hA hI hc1 hB hL hbA q1
  obtain ⟨d0, d1, d2⟩ := five_cells q3
  have hX : Below w3.heap.size w3 (w3.alloc (.cells #[.int .i64 1, .int .i64 3, .slice a3 0 cap3] 53)) := (Below.refl _ _).alloc (Nat.le_refl _) _
  have HX := Lib.hid hX
  have HB3 := Lib.hid hB3
  have hx0 := alloc_new w3 (.cells #[.int .i64 1, .int .i64 3, .slice a3 0 cap3] 53)
  have hq0 := (hX.block _ hs3).trans q3
  have HQ0 := Lib.hid hq0
  have HX0 := Lib.hid hx0
  clear q3 hq0 hx0
  go_wp2_with fail
  refine (dkids_any 7 _).mono ?_
  rw [show dkidsN 7 = 3 from by decide]
  rintro e w4 ⟨rfl, rfl⟩
  go_wp2_with fail
  refine (dinner_any 7 1 _).mono ?_
  rw [show innerB 7 1 = true from by decide]
  rintro e w5 ⟨rfl, rfl⟩
  go_wp2_with fail
  refine (dword_any 28 _).mono ?_
  rw [show wordN 28 = ⟨#[120, 112, 97, 105, 114]⟩ from by rfl]
  rintro e w6 ⟨rfl, rfl⟩
  go_wp2_with fail
  refine (drule_any ⟨#[99, 111, 110, 118, 115]⟩ 16 (ruleIs_word (r := 16) (by omega)) _).mono ?_
  rintro e w7 ⟨rfl, rfl⟩
  go_wp2_with fail
  refine (dright_any wkD _ _ (hL3.out.keep HX.out)).mono ?_
  rw [show wkD.rightB = true from by decide]
  rintro e w8 ⟨rfl, hb⟩
  have HX8 := Lib.hid (below_call HX.out hb HX.out.size)
  have hq := (hb.block _ (Array.getElem?_eq_some_iff.1 HQ0.out).1).trans HQ0.out
  have hx := (hb.block _ (Array.getElem?_eq_some_iff.1 HX0.out).1).trans HX0.out
  have HQ8 := Lib.hid hq
  have HX08 := Lib.hid hx
  clear d0 d1 d2
  obtain ⟨d0, d1, d2⟩ := five_cells hq
  obtain ⟨x0, x1, x2⟩ := five_cells hx
  clear hq hx hb
  go_wp2_with fail
  refine (dsize_any wkD _ _ (hL3.out.keep HX8.out) (by decide)).mono ?_
  rw [show ((wkD.size : Nat) : Int) = 2 from by decide]
  rintro e w9 ⟨rfl, hb⟩
  have HX9 := Lib.hid (below_call HX8.out hb HX8.out.size)
  have hq := (hb.block _ (Array.getElem?_eq_some_iff.1 HQ8.out).1).trans HQ8.out
  have hx := (hb.block _ (Array.getElem?_eq_some_iff.1 HX08.out).1).trans HX08.out
  have HQ9 := Lib.hid hq
  have HX09 := Lib.hid hx
  clear d0 d1 d2 x0 x1 x2
  obtain ⟨d0, d1, d2⟩ := five_cells hq
  obtain ⟨x0, x1, x2⟩ := five_cells hx
  clear hq hx hb
  go_wp2_with fail
  refine (ddeep_any wkD _ _ (hL3.out.keep HX9.out) (by decide)).mono ?_
  rw [show ((wkD.deep : Nat) : Int) = 2 from by decide]
  rintro e w10 ⟨rfl, hb⟩
  have HX10 := Lib.hid (below_call HX9.out hb HX9.out.size)
  have hq := (hb.block _ (Array.getElem?_eq_some_iff.1 HQ9.out).1).trans HQ9.out
  have hx := (hb.block _ (Array.getElem?_eq_some_iff.1 HX09.out).1).trans HX09.out
  have HQ10 := Lib.hid hq
  have HX010 := Lib.hid hx
  clear d0 d1 d2 x0 x1 x2
  obtain ⟨d0, d1, d2⟩ := five_cells hq
  obtain ⟨x0, x1, x2⟩ := five_cells hx
  clear hq hx hb
  go_wp2
  go_ret
  exact ⟨rfl, HB3.out.trans (HX10.out.mono HB3.out.size)⟩
end Go.Proofs.Ytjhdcjjoignioaa.Dv
