/-
  The layer's own sentence, transhiplaw04.wakes, is true.
-/
import Derived.Test.YtpaaleaomnhocaaTop
import Derived.Test.YtpaaleaomnhocaaRow
namespace Go.Proofs.Ytpaaleaomnhocaa
open Go.RowKit

def wake4 : Tm := .mk 14 0 0 0 [.mk 1 0 0 0 [], .mk 2 1 0 0 []]

set_option maxHeartbeats 800000 in
theorem wakes4_any (w : World) : Calls Try.prog 45 #[] w fun e w' => e = .returned (.bool true) ∧ Below w.heap.size w w' := by
  obtain ⟨W1, hW1⟩ : ∃ W1 : World, W1 = w.alloc (.cells #[.int .i64 1, .int .i64 0, .int .i64 0, .int .i64 0, .slice none 0 0, .int .i64 2, .int .i64 1, .int .i64 0, .int .i64 0, .slice none 0 0] 24) := ⟨_, rfl⟩
  have hs1 : W1.heap.size = w.heap.size + 1 := by rw [hW1]; simp
  have hrow : Row W1 w.heap.size 0 [(.mk 1 0 0 0 [], .slice none 0 0), (.mk 2 1 0 0 [], .slice none 0 0)] := by
    have key : ∀ o, W1.cell? ⟨w.heap.size, o, none⟩ = (#[.int .i64 1, .int .i64 0, .int .i64 0, .int .i64 0, .slice none 0 0, .int .i64 2, .int .i64 1, .int .i64 0, .int .i64 0, .slice none 0 0] : Array Value)[o]? := fun o => by
      rw [hW1, World.cell?_alloc_at _ _ _ _ rfl]
    refine ⟨⟨?_, ?_, ?_, ?_, ?_⟩, by simp [Tm.fine, I64, Tm.k, Tm.i, Tm.j, Tm.n], lies_nil _, ⟨?_, ?_, ?_, ?_, ?_⟩, by simp [Tm.fine, I64, Tm.k, Tm.i, Tm.j, Tm.n], lies_nil _, trivial⟩ <;> (rw [key]; rfl)
  have hl : Lies W1 wake4.kids (.slice (some ⟨w.heap.size, 0, none⟩) 2 2) := hrow.lies (by decide) (by decide)
  have hb1 : Below w.heap.size w W1 := by rw [hW1]; exact (Below.refl _ _).alloc (Nat.le_refl _) _
  have HL := Lib.hid hl
  have HS1 := Lib.hid hs1
  have HB1 := Lib.hid hb1
  have HW1 := Lib.hid hW1
  clear hrow hl hs1 hb1 hW1
  go_enter Try.func45, Try.ntmps45
  go_wp2_with fail
  rw [← HW1.out]
  have HB2 := (Below.refl (w.heap.size + 1 + 1) (W1.alloc (.cells #[.int .i64 14, .int .i64 0, .int .i64 0, .int .i64 0, .slice (some ⟨w.heap.size, 0, none⟩) 2 2] 24)))
  refine (right_any wake4 _ _ (HL.out.keep (((Below.refl W1.heap.size W1).alloc (Nat.le_refl _) _).trans (HB2.mono (by rw [HS1.out]; omega))))).mono ?_
  rintro e w3 ⟨rfl, hb'⟩
  rw [show wake4.rightB = _ from (by kernel_rfl : wake4.rightB = true)]
  have HB3 := below_call HB2 hb' (by simp [HS1.out])
  obtain ⟨d0, d1, d2, d3, d4⟩ := box_at HS1.out HB3
  clear hb'
  go_wp2_with fail
  clear d0 d1 d2 d3 d4
  refine (plain_any wake4 _ _ (HL.out.keep (((Below.refl W1.heap.size W1).alloc (Nat.le_refl _) _).trans (HB3.mono (by rw [HS1.out]; omega))))).mono ?_
  rintro e w4 ⟨rfl, hb'⟩
  rw [show wake4.plainB = _ from (by kernel_rfl : wake4.plainB = true)]
  have HB4 := below_call HB3 hb' (by have := HB3.size; simp [HS1.out] at this ⊢; omega)
  obtain ⟨d0, d1, d2, d3, d4⟩ := box_at HS1.out HB4
  clear hb'
  go_wp2_with fail
  clear d0 d1 d2 d3 d4
  refine (marked_any wake4 _ _ (HL.out.keep (((Below.refl W1.heap.size W1).alloc (Nat.le_refl _) _).trans (HB4.mono (by rw [HS1.out]; omega))))).mono ?_
  rintro e w5 ⟨rfl, hb'⟩
  rw [show wake4.markedB = _ from (by kernel_rfl : wake4.markedB = false)]
  have HB5 := below_call HB4 hb' (by have := HB4.size; simp [HS1.out] at this ⊢; omega)
  obtain ⟨d0, d1, d2, d3, d4⟩ := box_at HS1.out HB5
  clear hb'
  go_wp2_with fail
  clear d0 d1 d2 d3 d4
  refine (Free_any wake4 _ _ (HL.out.keep (((Below.refl W1.heap.size W1).alloc (Nat.le_refl _) _).trans (HB5.mono (by rw [HS1.out]; omega))))).mono ?_
  rintro e w6 ⟨rfl, hb'⟩
  rw [show wake4.freeB = _ from (by kernel_rfl : wake4.freeB = 1)]
  have HB6 := below_call HB5 hb' (by have := HB5.size; simp [HS1.out] at this ⊢; omega)
  obtain ⟨d0, d1, d2, d3, d4⟩ := box_at HS1.out HB6
  clear hb'
  go_wp2_with fail
  clear d0 d1 d2 d3 d4
  refine (size_any wake4 _ _ (HL.out.keep (((Below.refl W1.heap.size W1).alloc (Nat.le_refl _) _).trans (HB6.mono (by rw [HS1.out]; omega)))) (by decide +kernel)).mono ?_
  rintro e w7 ⟨rfl, hb'⟩
  rw [show wake4.size = _ from (by kernel_rfl : wake4.size = 3)]
  have HB7 := below_call HB6 hb' (by have := HB6.size; simp [HS1.out] at this ⊢; omega)
  obtain ⟨d0, d1, d2, d3, d4⟩ := box_at HS1.out HB7
  clear hb'
  go_wp2_with fail
  clear d0 d1 d2 d3 d4
  refine (deep_any wake4 _ _ (HL.out.keep (((Below.refl W1.heap.size W1).alloc (Nat.le_refl _) _).trans (HB7.mono (by rw [HS1.out]; omega)))) (by decide +kernel)).mono ?_
  rintro e w8 ⟨rfl, hb'⟩
  rw [show wake4.deep = _ from (by kernel_rfl : wake4.deep = 2)]
  have HB8 := below_call HB7 hb' (by have := HB7.size; simp [HS1.out] at this ⊢; omega)
  obtain ⟨d0, d1, d2, d3, d4⟩ := box_at HS1.out HB8
  clear hb'
  go_wp2_with (first | (go_at_call 46; refine (kids_any _ _ _).mono ?_; rintro e w' ⟨rfl, rfl⟩; rw [show kidsN 23 16 = 12 from rfl]) | (go_at_call 48; refine (binds_any _ _ _).mono ?_; rintro e w' ⟨rfl, rfl⟩; rw [show bindsN 22 2 = 2 from rfl]) | fail)
  refine (right_any (.mk 0 0 0 0 []) _ _ (lies_nil _)).mono ?_
  rintro e w9 ⟨rfl, hb'⟩
  rw [show (Tm.mk 0 0 0 0 []).rightB = false from by kernel_rfl]
  have HB9 := below_call HB8 hb' (by have := HB8.size; simp [HS1.out] at this ⊢; omega)
  clear hb'
  go_wp2
  go_ret
  exact ⟨rfl, HB1.out.trans (((Below.refl W1.heap.size W1).alloc (Nat.le_refl _) _).trans (HB9.mono (by rw [HS1.out]; omega)) |>.mono HB1.out.size)⟩
end Go.Proofs.Ytpaaleaomnhocaa
