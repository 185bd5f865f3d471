/-
  A list of ints behind a slice; the function that lift.Rename hands over.
-/
import Derived.Test.YtjafbnilejmbiaaLiftC
namespace Go.Proofs.Ytjafbnilejmbiaa
open Go.RowKit

/-- Ints that lie behind a slice. -/
structure LiesI (w : World) (l : List Int) (s : Value) : Prop where
  out : ∃ (a : Option Addr) (cap : Nat), s = .slice a l.length cap ∧ l.length ≤ cap ∧ cap ≤ maxLen ∧ ∀ i (h : i < l.length), ∃ b o, a = some ⟨b, o, none⟩ ∧ w.cell? ⟨b, o + i, none⟩ = some (.int .i64 l[i])
theorem LiesI.keep {w w' : World} {l : List Int} {s : Value} (h : LiesI w l s) (hb : Below w.heap.size w w') : LiesI w' l s := by
  obtain ⟨a, cap, hs, hc, hm, hn⟩ := h.out
  refine ⟨a, cap, hs, hc, hm, fun i hi => ?_⟩
  obtain ⟨b, o, ha, hx⟩ := hn i hi
  exact ⟨b, o, ha, (hb.cell (World.block_lt_of_cell? _ _ hx)).trans hx⟩

theorem goodTo_get {to : List Int} (h : goodTo to = true) {i : Nat} {x : Int} (hx : to[i]? = some x) : 0 ≤ x ∧ x ≤ 1073741824 := by
  unfold goodTo at h
  rw [List.all_eq_true] at h
  have := h x (List.mem_of_getElem? hx)
  simpa using this

theorem good_bad {to : List Int} {q : Nat} (h : q < to.length) (hx : to[q] < 0 ∨ 1073741824 < to[q]) : goodTo to = false := by
  cases hg : goodTo to with
  | false => rfl
  | true => have := goodTo_get hg (List.getElem?_eq_getElem h); omega
theorem good_next {to : List Int} {q : Nat} (h : q < to.length) (hg : goodTo (to.take q) = true) (h0 : ¬ to[q] < 0) (h1 : ¬ 1073741824 < to[q]) : goodTo (to.take (q + 1)) = true := by
  unfold goodTo at hg ⊢
  rw [List.take_succ_eq_append_getElem h, List.all_append, hg]
  simp; omega

theorem ren_fine {to : List Int} (hg : goodTo to = true) {x u : Tm} {b : Int} (hr : x.rightB = true) (hb : 0 ≤ b) (hb2 : b ≤ 1000000) (h : x.each (renF to) b = some u) : u.fine := by
  by_cases hk : x.k = 2
  · rw [Tm.each_var _ _ _ hk] at h
    simp only [Option.map_eq_some_iff] at h
    obtain ⟨v, hv, rfl⟩ := h
    have hv2 := x.right_var hr hk
    refine ⟨by show I64 2; unfold I64; omega, ?_, by show I64 0; unfold I64; omega, by show I64 0; unfold I64; omega⟩
    show I64 v
    unfold renF at hv
    split at hv
    · have := Option.some.inj hv; unfold I64; omega
    · simp only [Option.map_eq_some_iff] at hv
      obtain ⟨y, hy, rfl⟩ := hv
      have := goodTo_get hg hy
      unfold I64; omega
  · rw [Tm.each_node _ _ _ hk] at h
    simp only [Option.map_eq_some_iff] at h
    obtain ⟨m, -, rfl⟩ := h
    have := right_fine hr
    exact this

theorem renc_some (v b : Int) (to : List Int) (ta : Option Addr) (tcap : Nat) (r : Int) (bt : Nat) (w : World) (h : renF to v b = some r) (hg : goodTo to = true) (hv : 0 ≤ v) (hv2 : v ≤ 2147483647) (hb : 0 ≤ b) (hb2 : b ≤ 4000000)
    (hct : w.cell? ⟨bt, 0, none⟩ = some (.slice ta to.length tcap)) (hti : LiesI w to (.slice ta to.length tcap)) :
    Calls Try.prog 91 #[.int .i64 v, .int .i64 b, .pointer (some ⟨bt, 0, none⟩)] w fun e w' => e = .returned (.tuple #[.int .i64 r, .bool true]) ∧ w = w' := by
  unfold renF at h
  by_cases h1 : v < b
  · rw [if_pos h1] at h
    obtain rfl := Option.some.inj h
    have e1 : decide (v < b) = true := by simpa using h1
    clear h h1 hti
    go_enter Try.func91, Try.ntmps91
    go_wp2
    go_ret2
    exact ⟨rfl, rfl⟩
  · rw [if_neg h1] at h
    simp only [Option.map_eq_some_iff] at h
    obtain ⟨x, hx, rfl⟩ := h
    obtain ⟨n, hn⟩ : ∃ n : Nat, v - b = n := ⟨(v - b).toNat, by omega⟩
    have hvn : v = n + b := by omega
    subst hvn
    rw [hn] at hx
    simp only [Int.toNat_natCast] at hx
    obtain ⟨hlt, hget⟩ := List.getElem?_eq_some_iff.1 hx
    have hr := goodTo_get hg hx
    obtain ⟨a, cap, hs, hc, hm, hnn⟩ := hti.out
    obtain ⟨b2, o, ha, hcell⟩ := hnn n hlt
    simp only [Value.slice.injEq] at hs
    obtain ⟨rfl, -, rfl⟩ := hs
    subst ha
    rw [hget] at hcell
    unfold maxLen at hm
    have e1 : decide ((n : Int) + b < b) = false := by simp; omega
    have e2 : decide ((to.length : Int) ≤ n) = false := by simp; omega
    clear hx hnn hget h1 hti hg
    go_enter Try.func91, Try.ntmps91
    go_wp2
    go_ret2
    exact ⟨rfl, rfl⟩

theorem renc_none (v b : Int) (to : List Int) (ta : Option Addr) (tcap : Nat) (bt : Nat) (w : World) (h : renF to v b = none) (hv : 0 ≤ v) (hv2 : v ≤ 2147483647) (hb : 0 ≤ b) (hb2 : b ≤ 4000000)
    (hct : w.cell? ⟨bt, 0, none⟩ = some (.slice ta to.length tcap)) (hti : LiesI w to (.slice ta to.length tcap)) :
    Calls Try.prog 91 #[.int .i64 v, .int .i64 b, .pointer (some ⟨bt, 0, none⟩)] w fun e w' => e = .returned (.tuple #[.int .i64 0, .bool false]) ∧ w = w' := by
  unfold renF at h
  by_cases h1 : v < b
  · rw [if_pos h1] at h; cases h
  · rw [if_neg h1] at h
    simp only [Option.map_eq_none_iff, List.getElem?_eq_none_iff] at h
    obtain ⟨a, cap, hs, hc, hm, hnn⟩ := hti.out
    simp only [Value.slice.injEq] at hs
    obtain ⟨rfl, -, rfl⟩ := hs
    unfold maxLen at hm
    have e1 : decide (v < b) = false := by simpa using h1
    have e2 : decide ((to.length : Int) ≤ v - b) = true := by simp; omega
    clear hnn hti h h1
    go_enter Try.func91, Try.ntmps91
    go_wp2
    go_ret2
    exact ⟨rfl, rfl⟩
end Go.Proofs.Ytjafbnilejmbiaa
