/-
  The page's own Get and Put.
-/
import Derived.Test.YtjoolpmaehnhpaaDoorNumC
import Derived.Laws.BytesArg
import Derived.Laws.AppendOwnNone
import Derived.Deep.AppendLies
import Derived.Laws.OwnMore
import Derived.OwnWalk
namespace Go.Proofs.YtjoolpmaehnhpaaDoor
open Go.RowKit Go.Lib

theorem foldl_lt (l : List UInt8) : ∀ a : Nat, digs l = true → l.foldl (fun n c => 10 * n + (c.toNat - 48)) a < (a + 1) * 10 ^ l.length := by
  induction l with
  | nil => intro a _; simp
  | cons c l ih =>
    intro a h
    simp only [digs, List.all_cons, Bool.and_eq_true, isd, decide_eq_true_eq] at h
    simp only [List.foldl_cons, List.length_cons, Nat.pow_succ]
    refine Nat.lt_of_lt_of_le (ih _ h.2) ?_
    rw [Nat.mul_comm (10 ^ l.length) 10, ← Nat.mul_assoc]
    exact Nat.mul_le_mul_right _ (by omega)
theorem val_lt {l : List UInt8} (h : digs l = true) : val l < 10 ^ l.length := by
  have := foldl_lt l 0 h
  simpa [val] using this

set_option maxHeartbeats 1000000 in
theorem refget_any (s : ByteArray) (w : World) (hs : s.size ≤ maxLen) : Calls Tryd.prog 8 #[.string s] w fun e w' => e = .returned (getV s.data.toList) ∧ w' = w := by
  unfold maxLen at hs
  have hsl : s.data.toList.length = s.size := by simp
  by_cases h0 : s.size = 0
  · have hl : s.data.toList = [] := List.eq_nil_of_length_eq_zero (by omega)
    have HV := Lib.hid (getV_none (l := s.data.toList) (by rw [hl]; rfl))
    clear hl hsl
    go_enter Tryd.func8, Tryd.ntmps8
    go_wp2
    go_ret2
    rw [HV.out]
    exact ⟨rfl, rfl⟩
  have hne : s.data.toList ≠ [] := fun h => by rw [h] at hsl; simp at hsl; omega
  have e0 : ((s.size : Int) == 0) = false := by simpa using h0
  by_cases h7 : 7 < s.size
  · have HV := Lib.hid (getV_none (get_long (l := s.data.toList) (by omega)))
    clear hne hsl
    go_enter Tryd.func8, Tryd.ntmps8
    go_wp2
    go_ret2
    rw [HV.out]
    exact ⟨rfl, rfl⟩
  have h0' : 0 < s.size := by omega
  have e7 : ¬ 7 < (s.size : Int) := by omega
  by_cases h1 : 1 < s.size ∧ ((s[0].toNat : Int) = 48)
  · obtain ⟨h1, h2⟩ := h1
    have HV := Lib.hid (getV_none (l := s.data.toList) (by
      unfold getB; rw [if_pos (Or.inr ⟨by omega, by rw [head_at s h0']; congr 1; apply UInt8.toNat_inj.1; simp; omega⟩)]))
    have e2 : ((s[0].toNat : Int) == 48) = true := by simpa using h2
    clear hne hsl h2
    go_enter Tryd.func8, Tryd.ntmps8
    go_wp2
    go_ret2
    rw [HV.out]
    exact ⟨rfl, rfl⟩
  have HN2 : Hid (¬ (1 < s.data.toList.length ∧ s.data.toList.head? = some 48)) := by
    rintro ⟨h, h'⟩
    rw [head_at s h0'] at h'
    simp only [Option.some.injEq] at h'
    exact h1 ⟨by omega, by rw [h']; rfl⟩
  by_cases hA : 1 < s.size
  · have e2 : ((s[0].toNat : Int) == 48) = false := by
      have : ¬ (s[0].toNat : Int) = 48 := fun h => h1 ⟨hA, h⟩
      simpa using this
    clear h1 h0
    have HHN := Lib.hid hne
    have HHS := Lib.hid hsl
    clear hne hsl
    go_enter Tryd.func8, Tryd.ntmps8
    go_wp2
    go_loop [4, 5] (fun n i => ∃ k : Nat, k ≤ s.size ∧ i = .int .i64 k ∧ n = .int .i64 (val (s.data.toList.take k) : Nat) ∧ Hid (digs (s.data.toList.take k) = true) ∧ Hid (val (s.data.toList.take k) < 10000000)) (fun _ i => s.size - (RowKit.intOf i).toNat)
    case atStart => exact ⟨0, Nat.zero_le _, rfl, rfl, rfl, (show (0 : Nat) < 10000000 by omega)⟩
    case round =>
      obtain ⟨k, hk, rfl, rfl, hd, hv⟩ := hrel
      by_cases hlt : k < s.size
      · have hts := take_snoc s k hlt
        have hsn := val_snoc (s.data.toList.take k) s[k]
        have hdn := digs_snoc (s.data.toList.take k) s[k]
        rw [← hts] at hsn hdn
        rw [hd.out, Bool.true_and] at hdn
        have hc0 := s[k].toNat_lt
        by_cases l1 : (s[k].toNat : Int) < 48
        · have HF := Lib.hid (getV_none (getB_digs (isd_at s k hlt (by unfold isd; simp; omega))))
          clear hts hsn hdn hc0 hd hv
          go_wp2
          go_ret2
          rw [HF.out]
          exact ⟨rfl, rfl⟩
        by_cases l2 : 57 < (s[k].toNat : Int)
        · have HF := Lib.hid (getV_none (getB_digs (isd_at s k hlt (by unfold isd; simp; omega))))
          clear hts hsn hdn hc0 hd hv
          go_wp2
          go_ret2
          rw [HF.out]
          exact ⟨rfl, rfl⟩
        have hv0 := hv.out
        obtain ⟨v, hve⟩ : ∃ v : Nat, val (s.data.toList.take k) = v := ⟨_, rfl⟩
        rw [hve] at hsn hv0 ⊢
        have l3 : 48 ≤ (s[k].toNat : Int) := by omega
        have l4 : (s[k].toNat : Int) ≤ 57 := by omega
        have HDN : Hid (digs (s.data.toList.take (k + 1)) = true) := by rw [Hid, hdn]; unfold isd; simp; omega
        have HSN := Lib.hid (show ((val (s.data.toList.take (k + 1)) : Nat) : Int) = 10 * (v : Int) + ((s[k].toNat : Int) - 48) by rw [hsn]; omega)
        have hvs := val_at s (k + 1)
        have hw1 : IntKind.u8.wrap ((s[k].toNat : Int) - 48) = (s[k].toNat : Int) - 48 := IntWalk.u8_in _ (by omega)
        have HV5 : Hid (val (s.data.toList.take (k + 1)) < 10000000) := by
          have h1 := val_lt (l := s.data.toList.take (k + 1)) HDN.out
          have h2 : (s.data.toList.take (k + 1)).length ≤ 7 := by rw [List.length_take]; omega
          have h3 : 10 ^ (s.data.toList.take (k + 1)).length ≤ 10 ^ 7 := Nat.pow_le_pow_right (by omega) h2
          rw [Hid]; omega
        clear hts hsn hdn hc0 hd hv hvs hve l1 l2
        go_wp2
        go_round
        case rel => exact ⟨k + 1, hlt, by go_num, by rw [HSN.out], HDN, HV5⟩
        case measure => simp [RowKit.intOf]; omega
      · have hte : s.data.toList.take k = s.data.toList := List.take_of_length_le (by rw [HHS.out]; omega)
        rw [hte] at hd hv ⊢
        obtain ⟨v, hve⟩ : ∃ v : Nat, val s.data.toList = v := ⟨_, rfl⟩
        have hd0 := hd.out
        have hv0 := hv.out
        rw [hve] at hv0
        by_cases l5 : 1000000 < v
        · have HG := Lib.hid (getV_none (getB_great (l := s.data.toList) (by omega)))
          have l6 : 1000000 < (v : Int) := by omega
          rw [hve]
          clear hte hd hv hd0 hve l5
          go_wp2
          go_ret2
          rw [HG.out]
          exact ⟨rfl, rfl⟩
        · have HG := Lib.hid (getV_some (getB_of HHN.out HN2.out hd0 (by omega)))
          have l6 : ¬ 1000000 < (v : Int) := by omega
          rw [hve] at HG ⊢
          clear hte hd hv hd0 hve l5
          go_wp2
          go_ret2
          rw [HG.out]
          exact ⟨rfl, rfl⟩
  · clear h1 h0
    have HHN := Lib.hid hne
    have HHS := Lib.hid hsl
    clear hne hsl
    go_enter Tryd.func8, Tryd.ntmps8
    go_wp2
    go_loop [4, 5] (fun n i => ∃ k : Nat, k ≤ s.size ∧ i = .int .i64 k ∧ n = .int .i64 (val (s.data.toList.take k) : Nat) ∧ Hid (digs (s.data.toList.take k) = true) ∧ Hid (val (s.data.toList.take k) < 10000000)) (fun _ i => s.size - (RowKit.intOf i).toNat)
    case atStart => exact ⟨0, Nat.zero_le _, rfl, rfl, rfl, (show (0 : Nat) < 10000000 by omega)⟩
    case round =>
      obtain ⟨k, hk, rfl, rfl, hd, hv⟩ := hrel
      by_cases hlt : k < s.size
      · have hts := take_snoc s k hlt
        have hsn := val_snoc (s.data.toList.take k) s[k]
        have hdn := digs_snoc (s.data.toList.take k) s[k]
        rw [← hts] at hsn hdn
        rw [hd.out, Bool.true_and] at hdn
        have hc0 := s[k].toNat_lt
        by_cases l1 : (s[k].toNat : Int) < 48
        · have HF := Lib.hid (getV_none (getB_digs (isd_at s k hlt (by unfold isd; simp; omega))))
          clear hts hsn hdn hc0 hd hv
          go_wp2
          go_ret2
          rw [HF.out]
          exact ⟨rfl, rfl⟩
        by_cases l2 : 57 < (s[k].toNat : Int)
        · have HF := Lib.hid (getV_none (getB_digs (isd_at s k hlt (by unfold isd; simp; omega))))
          clear hts hsn hdn hc0 hd hv
          go_wp2
          go_ret2
          rw [HF.out]
          exact ⟨rfl, rfl⟩
        have hv0 := hv.out
        obtain ⟨v, hve⟩ : ∃ v : Nat, val (s.data.toList.take k) = v := ⟨_, rfl⟩
        rw [hve] at hsn hv0 ⊢
        have l3 : 48 ≤ (s[k].toNat : Int) := by omega
        have l4 : (s[k].toNat : Int) ≤ 57 := by omega
        have HDN : Hid (digs (s.data.toList.take (k + 1)) = true) := by rw [Hid, hdn]; unfold isd; simp; omega
        have HSN := Lib.hid (show ((val (s.data.toList.take (k + 1)) : Nat) : Int) = 10 * (v : Int) + ((s[k].toNat : Int) - 48) by rw [hsn]; omega)
        have hvs := val_at s (k + 1)
        have hw1 : IntKind.u8.wrap ((s[k].toNat : Int) - 48) = (s[k].toNat : Int) - 48 := IntWalk.u8_in _ (by omega)
        have HV5 : Hid (val (s.data.toList.take (k + 1)) < 10000000) := by
          have h1 := val_lt (l := s.data.toList.take (k + 1)) HDN.out
          have h2 : (s.data.toList.take (k + 1)).length ≤ 7 := by rw [List.length_take]; omega
          have h3 : 10 ^ (s.data.toList.take (k + 1)).length ≤ 10 ^ 7 := Nat.pow_le_pow_right (by omega) h2
          rw [Hid]; omega
        clear hts hsn hdn hc0 hd hv hvs hve l1 l2
        go_wp2
        go_round
        case rel => exact ⟨k + 1, hlt, by go_num, by rw [HSN.out], HDN, HV5⟩
        case measure => simp [RowKit.intOf]; omega
      · have hte : s.data.toList.take k = s.data.toList := List.take_of_length_le (by rw [HHS.out]; omega)
        rw [hte] at hd hv ⊢
        obtain ⟨v, hve⟩ : ∃ v : Nat, val s.data.toList = v := ⟨_, rfl⟩
        have hd0 := hd.out
        have hv0 := hv.out
        rw [hve] at hv0
        by_cases l5 : 1000000 < v
        · have HG := Lib.hid (getV_none (getB_great (l := s.data.toList) (by omega)))
          have l6 : 1000000 < (v : Int) := by omega
          rw [hve]
          clear hte hd hv hd0 hve l5
          go_wp2
          go_ret2
          rw [HG.out]
          exact ⟨rfl, rfl⟩
        · have HG := Lib.hid (getV_some (getB_of HHN.out HN2.out hd0 (by omega)))
          have l6 : ¬ 1000000 < (v : Int) := by omega
          rw [hve] at HG ⊢
          clear hte hd hv hd0 hve l5
          go_wp2
          go_ret2
          rw [HG.out]
          exact ⟨rfl, rfl⟩

/-- The bytes' cells. -/
def cells8 (l : List UInt8) : List Value := l.map fun c => .int .u8 (c.toNat : Int)
theorem nums_str (l : List UInt8) : strOfNums (l.map fun c => (c.toNat : Int)) = ⟨l.toArray⟩ := by
  unfold strOfNums
  congr 2
  rw [List.map_map]
  conv => rhs; rw [← List.map_id l]
  apply List.map_congr_left
  intro c _
  simp
theorem str_of_row {w : World} {B : Nat} {g cap : Nat} {l : List UInt8} (h : w.ownsRow B 5 1 (.slice (some ⟨g, 0, none⟩) l.length cap) l.length (cells8 l)) :
    (convert 30 9 (.slice (some ⟨g, 0, none⟩) l.length cap)).run Tryd.prog w = .ok (.string ⟨l.toArray⟩) w := by
  have := run_convert_bytes_arg (P := Tryd.prog) w 30 5 Tryd.underlying30 Tryd.underlying5 g 0 l.length cap (l.map fun c => (c.toNat : Int)) (by simp) (fun i hi => by
    rw [Nat.zero_add, h.cellAt i (by omega)]
    simp [cells8, List.getD, hi]) 9 Tryd.underlying9
  rw [nums_str] at this
  exact this
/-- What the page's loop has written: the digits behind what is left of the number. -/
def DigInv (u0 u : Nat) (l : List UInt8) : Prop := (0 < u ∧ decDigits u0 = decDigits u ++ l) ∨ (u = 0 ∧ decDigits u0 = l)
theorem digInv_step {u0 u : Nat} {l : List UInt8} (h : DigInv u0 u l) (hu : 0 < u) : DigInv u0 (u / 10) (UInt8.ofNat (48 + u % 10) :: l) := by
  rcases h with ⟨-, h⟩ | ⟨h, -⟩
  · by_cases h10 : u < 10
    · refine Or.inr ⟨by omega, ?_⟩
      rw [h, decDigits_one h10, Nat.mod_eq_of_lt h10]; rfl
    · refine Or.inl ⟨by omega, ?_⟩
      rw [h, decDigits, dif_neg h10]; simp
  · omega
theorem digInv_len {u0 u : Nat} {l : List UInt8} (h : DigInv u0 u l) (h64 : u0 < 18446744073709551616) : l.length ≤ 20 := by
  have h1 := nDigits_le20 u0 h64
  rw [← decDigits_length] at h1
  rcases h with ⟨-, h⟩ | ⟨-, h⟩
  · rw [h, List.length_append] at h1; omega
  · rw [h] at h1; exact h1
theorem wrap_u64 (n : Int) : IntKind.u64.wrap n = n % 18446744073709551616 := by
  unfold IntKind.wrap; simp [IntKind.signed, IntKind.bits]
theorem cells8_len (l : List UInt8) : (cells8 l).length = l.length := by simp [cells8]
theorem cells8_one (l : List UInt8) : ∀ u ∈ cells8 l, u.oneCell' = true := by
  intro u hu
  obtain ⟨c, -, rfl⟩ := List.mem_map.1 hu
  rfl
theorem row_base {w : World} {b b' : Nat} {e : TypeId} {size : Nat} {v : Value} {n : Nat} {xs : List Value} (h : w.ownsRow b e size v n xs) (hb : b' ≤ b) : w.ownsRow b' e size v n xs := by
  refine ⟨h.1, ?_⟩
  rcases h.2 with h' | ⟨g, cap, cur, h1, h2, h3⟩
  · exact Or.inl h'
  · exact Or.inr ⟨g, cap, cur, h1, Nat.le_trans hb h2, h3⟩
theorem row_more {w : World} {b b' : Nat} {e : TypeId} {v : Value} {c : UInt8} {l : List UInt8} (h : w.ownsRow b e 1 v (1 + l.length) (.int .u8 (c.toNat : Int) :: cells8 l)) (hb : b' ≤ b) : w.ownsRow b' e 1 v (c :: l).length (cells8 (c :: l)) := by
  rw [List.length_cons, Nat.add_comm]; exact row_base h hb
theorem cat_one (A : List UInt8) : (⟨#[45]⟩ : ByteArray) ++ (⟨A.toArray⟩ : ByteArray) = ⟨(45 :: A).toArray⟩ := by
  apply ByteArray.ext; rw [ByteArray.data_append]; simp
theorem info_u8 : (Tryd.prog.info? 5).map (fun i => (i.zero, i.size, i.bytes)) = some (some (.int .u8 0), 1, 1) := by kernel_rfl

set_option maxHeartbeats 2000000 in
theorem refput_any (n : Int) (w : World) (hn : I64 n) : Calls Tryd.prog 10 #[.int .i64 n] w fun e w' => e = .returned (.string ⟨(itoa n).toArray⟩) ∧ Below w.heap.size w w' := by
  obtain ⟨hn0, hn1⟩ := hn
  by_cases h0 : n = 0
  · subst h0
    go_enter Tryd.func10, Tryd.ntmps10
    go_wp2
    go_ret
    exact ⟨by rw [show itoa 0 = [48] by decide +kernel]; rfl, Below.refl _ _⟩
  have e0 : (n == 0) = false := by simpa using h0
  obtain ⟨i0, hi, hz0, hz1, hz2⟩ := info_parts info_u8
  have HI := Lib.hid (And.intro hi (And.intro hz0 (And.intro hz1 hz2)))
  clear hi hz0 hz1 hz2
  obtain ⟨u0, hu0⟩ : ∃ u0 : Nat, n.natAbs = u0 := ⟨_, rfl⟩
  have hupos : 0 < u0 := by omega
  have HD0 : Hid (DigInv u0 u0 []) := Or.inl ⟨hupos, by simp⟩
  have HU0 : Hid (u0 ≤ 9223372036854775808) := by rw [Hid]; omega
  have H64 : Hid (u0 < 18446744073709551616) := by rw [Hid]; omega
  by_cases hneg : n < 0
  · have HRES := Lib.hid (show itoa n = 45 :: decDigits u0 by unfold itoa; rw [if_pos hneg, hu0])
    have hw : IntKind.u64.wrap (-IntKind.u64.wrap n) = (u0 : Int) := by
      rw [wrap_u64, wrap_u64]; omega
    clear hu0 hupos
    go_enter Tryd.func10, Tryd.ntmps10
    go_wp2
    go_loopw [3, 4] (fun u3 v wr => ∃ (u : Nat) (l : List UInt8), u3 = .int .u64 u ∧ Hid (DigInv u0 u l) ∧ Hid (u ≤ 9223372036854775808) ∧ wr.ownsRow w.heap.size 5 1 v l.length (cells8 l) ∧ Hid ((v = .slice none 0 0 ∧ l = []) ∨ (∃ g cap, v = .slice (some ⟨g, 0, none⟩) l.length cap ∧ 0 < l.length)) ∧ Below w.heap.size w wr) (fun u3 _ _ => (RowKit.intOf u3).toNat)
    case atStart => exact ⟨u0, [], rfl, HD0.out, HU0.out, World.ownsRow_nil _ _ _ _, Or.inl ⟨rfl, rfl⟩, Below.refl _ _⟩
    case round =>
      obtain ⟨u, l, rfl, hd, hub, hown, hvv, hb⟩ := hrel
      have hub0 : (u : Int) ≤ 9223372036854775808 := by have := hub.out; omega
      have hlen := digInv_len hd.out H64.out
      by_cases hu : 0 < u
      · have HN := Lib.hid (digInv_step hd.out hu)
        have hu' : 0 < (u : Int) := by omega
        obtain ⟨c, hc⟩ : ∃ c, UInt8.ofNat (48 + u % 10) = c := ⟨_, rfl⟩
        have hcn : (c.toNat : Int) = 48 + (u : Int) % 10 := by rw [← hc, ofNat_toNat _ (by omega)]; omega
        rw [hc] at HN
        have hcw : IntKind.u8.wrap (48 + (u : Int) % 10) = (c.toNat : Int) := by rw [hcn]; exact IntWalk.u8_in _ (by omega)
        have HUB := Lib.hid (show u / 10 ≤ 9223372036854775808 by omega)
        have hq : ((u / 10 : Nat) : Int) = (u : Int) / 10 := by omega
        have HQ := Lib.hid hq
        clear hc hcn hd hub hq
        have hB1 : w.heap.size ≤ wr.heap.size := hb.size
        have hlit := World.ownsRow_lit (base := wr.heap.size) (e := 5) (size := 1) wr #[.int .u8 (c.toNat : Int)] 1 (Nat.le_refl _) (by unfold maxLen; omega) rfl
        have hbl : Below w.heap.size w (wr.alloc (.cells #[.int .u8 (c.toNat : Int)] 5)) := hb.alloc hB1 _
        have hown1 := hown.alloc (.cells #[.int .u8 (c.toNat : Int)] 5)
        rcases hvv.out with ⟨rfl, rfl⟩ | ⟨g, cap, rfl, hl0⟩
        · clear hvv hown1
          have HLIT := Lib.hid hlit
          have HBL := Lib.hid hbl
          clear hlit hbl hb hown
          go_wp2_with (at_builtin; refine wpList_append_own_none rfl _ _ 30 rfl wr.heap.size 5 i0 1 Tryd.underlying30 HI.out.1 _ 1 _ rfl HLIT.out rfl ?_)
          go_roundw
          case rel => exact ⟨u / 10, [c], by rw [HQ.out], HN.out, HUB.out, row_base HLIT.out hB1, Or.inr ⟨_, _, rfl, by simp⟩, HBL.out⟩
          case measure => simp [RowKit.intOf]; omega
        · have hcl := World.ownsRow.cells (hown.alloc (.cells #[.int .u8 (c.toNat : Int)] 5)) (g := g) rfl
          have HLIT := Lib.hid hlit
          have HBL := Lib.hid hbl
          have HCL := Lib.hid hcl
          have HB1 := Lib.hid hB1
          clear hlit hbl hb hown hown1 hcl hB1 hvv
          go_wp2_with (at_builtin; refine wpList_append_lies _ rfl _ _ 30 rfl wr.heap.size 5 i0 (.int .u8 0) 1 1 Tryd.underlying30 HI.out.1 HI.out.2.1 HI.out.2.2.1 HI.out.2.2.2 rfl (by decide) (.slice (some ⟨wr.heap.size, 0, none⟩) 1 1) 1 _ rfl HLIT.out ⟨g, 0, none⟩ l.length cap (cells8 l) rfl (by rw [cells8_len]; omega) HCL.out (cells8_one l) hl0 (by unfold maxLen; omega) (by omega) (by simp) _ rfl ?_; intro g' cap' w' hown' hgrow hat hlt'; have HO := Lib.hid (row_more (c := c) hown' HB1.out); have HB := Lib.hid (HBL.out.grown hgrow (by simp; have := HB1.out; omega) (fun k hk => by have : k = wr.heap.size := (Option.some.inj hk).symm; have := HB1.out; omega)); clear hown' hgrow hat hlt')
          go_roundw
          case rel => exact ⟨u / 10, c :: l, by rw [HQ.out], HN.out, HUB.out, HO.out, Or.inr ⟨g', cap', by rw [List.length_cons, Nat.add_comm], by simp⟩, HB.out⟩
          case measure => simp [RowKit.intOf]; omega
      · have hu0 : u = 0 := by omega
        subst hu0
        have hdl : decDigits u0 = l := by
          rcases hd.out with ⟨h, -⟩ | ⟨-, h⟩
          · omega
          · exact h
        have hlp : 0 < l.length := by rw [← hdl, decDigits_length]; exact nDigits_pos _
        rcases hvv.out with ⟨-, rfl⟩ | ⟨g, cap, rfl, -⟩
        · simp at hlp
        · have hrun := str_of_row hown
          have HR := Lib.hid (HRES.out.trans (congrArg (fun x => 45 :: x) hdl))
          have HB := Lib.hid hb
          clear hdl hlp hvv hown hb hd hub
          go_wp2
          go_ret
          exact ⟨by rw [HR.out]; exact congrArg (fun x => Ending.returned (.string x)) (cat_one l), HB.out⟩
  · have HRES := Lib.hid (show itoa n = decDigits u0 by unfold itoa; rw [if_neg hneg, show n.toNat = u0 by omega])
    have hw : IntKind.u64.wrap n = (u0 : Int) := by
      rw [wrap_u64]; omega
    clear hu0 hupos
    go_enter Tryd.func10, Tryd.ntmps10
    go_wp2
    go_loopw [3, 4] (fun u3 v wr => ∃ (u : Nat) (l : List UInt8), u3 = .int .u64 u ∧ Hid (DigInv u0 u l) ∧ Hid (u ≤ 9223372036854775808) ∧ wr.ownsRow w.heap.size 5 1 v l.length (cells8 l) ∧ Hid ((v = .slice none 0 0 ∧ l = []) ∨ (∃ g cap, v = .slice (some ⟨g, 0, none⟩) l.length cap ∧ 0 < l.length)) ∧ Below w.heap.size w wr) (fun u3 _ _ => (RowKit.intOf u3).toNat)
    case atStart => exact ⟨u0, [], rfl, HD0.out, HU0.out, World.ownsRow_nil _ _ _ _, Or.inl ⟨rfl, rfl⟩, Below.refl _ _⟩
    case round =>
      obtain ⟨u, l, rfl, hd, hub, hown, hvv, hb⟩ := hrel
      have hub0 : (u : Int) ≤ 9223372036854775808 := by have := hub.out; omega
      have hlen := digInv_len hd.out H64.out
      by_cases hu : 0 < u
      · have HN := Lib.hid (digInv_step hd.out hu)
        have hu' : 0 < (u : Int) := by omega
        obtain ⟨c, hc⟩ : ∃ c, UInt8.ofNat (48 + u % 10) = c := ⟨_, rfl⟩
        have hcn : (c.toNat : Int) = 48 + (u : Int) % 10 := by rw [← hc, ofNat_toNat _ (by omega)]; omega
        rw [hc] at HN
        have hcw : IntKind.u8.wrap (48 + (u : Int) % 10) = (c.toNat : Int) := by rw [hcn]; exact IntWalk.u8_in _ (by omega)
        have HUB := Lib.hid (show u / 10 ≤ 9223372036854775808 by omega)
        have hq : ((u / 10 : Nat) : Int) = (u : Int) / 10 := by omega
        have HQ := Lib.hid hq
        clear hc hcn hd hub hq
        have hB1 : w.heap.size ≤ wr.heap.size := hb.size
        have hlit := World.ownsRow_lit (base := wr.heap.size) (e := 5) (size := 1) wr #[.int .u8 (c.toNat : Int)] 1 (Nat.le_refl _) (by unfold maxLen; omega) rfl
        have hbl : Below w.heap.size w (wr.alloc (.cells #[.int .u8 (c.toNat : Int)] 5)) := hb.alloc hB1 _
        have hown1 := hown.alloc (.cells #[.int .u8 (c.toNat : Int)] 5)
        rcases hvv.out with ⟨rfl, rfl⟩ | ⟨g, cap, rfl, hl0⟩
        · clear hvv hown1
          have HLIT := Lib.hid hlit
          have HBL := Lib.hid hbl
          clear hlit hbl hb hown
          go_wp2_with (at_builtin; refine wpList_append_own_none rfl _ _ 30 rfl wr.heap.size 5 i0 1 Tryd.underlying30 HI.out.1 _ 1 _ rfl HLIT.out rfl ?_)
          go_roundw
          case rel => exact ⟨u / 10, [c], by rw [HQ.out], HN.out, HUB.out, row_base HLIT.out hB1, Or.inr ⟨_, _, rfl, by simp⟩, HBL.out⟩
          case measure => simp [RowKit.intOf]; omega
        · have hcl := World.ownsRow.cells (hown.alloc (.cells #[.int .u8 (c.toNat : Int)] 5)) (g := g) rfl
          have HLIT := Lib.hid hlit
          have HBL := Lib.hid hbl
          have HCL := Lib.hid hcl
          have HB1 := Lib.hid hB1
          clear hlit hbl hb hown hown1 hcl hB1 hvv
          go_wp2_with (at_builtin; refine wpList_append_lies _ rfl _ _ 30 rfl wr.heap.size 5 i0 (.int .u8 0) 1 1 Tryd.underlying30 HI.out.1 HI.out.2.1 HI.out.2.2.1 HI.out.2.2.2 rfl (by decide) (.slice (some ⟨wr.heap.size, 0, none⟩) 1 1) 1 _ rfl HLIT.out ⟨g, 0, none⟩ l.length cap (cells8 l) rfl (by rw [cells8_len]; omega) HCL.out (cells8_one l) hl0 (by unfold maxLen; omega) (by omega) (by simp) _ rfl ?_; intro g' cap' w' hown' hgrow hat hlt'; have HO := Lib.hid (row_more (c := c) hown' HB1.out); have HB := Lib.hid (HBL.out.grown hgrow (by simp; have := HB1.out; omega) (fun k hk => by have : k = wr.heap.size := (Option.some.inj hk).symm; have := HB1.out; omega)); clear hown' hgrow hat hlt')
          go_roundw
          case rel => exact ⟨u / 10, c :: l, by rw [HQ.out], HN.out, HUB.out, HO.out, Or.inr ⟨g', cap', by rw [List.length_cons, Nat.add_comm], by simp⟩, HB.out⟩
          case measure => simp [RowKit.intOf]; omega
      · have hu0 : u = 0 := by omega
        subst hu0
        have hdl : decDigits u0 = l := by
          rcases hd.out with ⟨h, -⟩ | ⟨-, h⟩
          · omega
          · exact h
        have hlp : 0 < l.length := by rw [← hdl, decDigits_length]; exact nDigits_pos _
        rcases hvv.out with ⟨-, rfl⟩ | ⟨g, cap, rfl, -⟩
        · simp at hlp
        · have hrun := str_of_row hown
          have HR := Lib.hid (HRES.out.trans hdl)
          have HB := Lib.hid hb
          clear hdl hlp hvv hown hb hd hub
          go_wp2
          go_ret
          exact ⟨by rw [HR.out]; rfl, HB.out⟩
end Go.Proofs.YtjoolpmaehnhpaaDoor
