/-
  The free variables of a term: term.free and the page's free.
-/
import Derived.Test.YtjhdcjjoignioaaSorts
import Derived.Deep.RegionWith
namespace Go.Proofs.Ytjhdcjjoignioaa
open Go.RowKit

mutual
def Tm.freeN : Tm → Int
  | .mk k i _ _ l => if k = 2 then i + 1 else frees k 0 l
def frees : Int → Nat → List Tm → Int
  | _, _, [] => 0
  | k, p, t :: r => max (t.freeN - bindsN k p) (frees k (p + 1) r)
end
theorem Tm.freeN_eq (t : Tm) : t.freeN = if t.k = 2 then t.i + 1 else frees t.k 0 t.kids := by cases t; rfl

theorem frees_nonneg (k : Int) (l : List Tm) (p : Nat) : 0 ≤ frees k p l := by
  induction l generalizing p with
  | nil => simp [frees]
  | cons a r ih => simp only [frees]; have := ih (p + 1); omega

theorem frees_take (k : Int) (l : List Tm) (p m : Nat) (h : m < l.length) : frees k p (l.take (m + 1)) = max (frees k p (l.take m)) ((l[m]).freeN - bindsN k ((p + m : Nat) : Int)) := by
  induction l generalizing p m with
  | nil => simp at h
  | cons a r ih =>
    cases m with
    | zero => simp [frees]; omega
    | succ m => simp only [List.take_succ_cons, frees, List.getElem_cons_succ]; rw [ih (p + 1) m (by simpa using h), show p + 1 + m = p + (m + 1) by omega]; omega

def Tm.rightB (t : Tm) : Bool := t.markedB || t.plainB

theorem plains_mem {l : List Tm} (h : plains l = true) : ∀ x ∈ l, x.plainB = true := by
  induction l with
  | nil => simp
  | cons a r ih =>
    simp only [plains, Bool.and_eq_true] at h
    intro x hx
    rcases List.mem_cons.1 hx with rfl | hx
    · exact h.1
    · exact ih h.2 x hx
theorem markeds_mem {tr : Bool} {l : List Tm} {p : Nat} (h : markeds tr p l = true) : ∀ x ∈ l, x.rightB = true := by
  induction l generalizing p with
  | nil => simp
  | cons a r ih =>
    simp only [markeds, Bool.and_eq_true] at h
    intro x hx
    rcases List.mem_cons.1 hx with rfl | hx
    · have := h.1; simp only [Tm.rightB]; split at this <;> simp [this]
    · exact ih h.2 x hx
theorem Tm.right_node {t : Tm} (h : t.rightB = true) : t.nodeB = true := by
  simp only [Tm.rightB, Tm.markedB_eq, Tm.plainB_eq, Bool.or_eq_true, Bool.and_eq_true] at h
  rcases h with h | h
  · exact h.2.1
  · exact h.2.1
theorem Tm.right_kids {t : Tm} (h : t.rightB = true) : ∀ x ∈ t.kids, x.rightB = true := by
  simp only [Tm.rightB, Tm.markedB_eq, Tm.plainB_eq, Bool.or_eq_true, Bool.and_eq_true] at h
  rcases h with h | h
  · exact markeds_mem h.2.2
  · intro x hx; simp only [Tm.rightB, Bool.or_eq_true]; right; exact plains_mem h.2.2 x hx
theorem Tm.right_var {t : Tm} (h : t.rightB = true) (hk : t.k = 2) : 0 ≤ t.i ∧ t.i ≤ 2147483647 := by
  have := t.right_node h
  simp only [Tm.nodeB, numbersN, hk, Bool.and_eq_true, if_true, decide_eq_true_eq] at this
  exact ⟨this.2.1, this.2.2.1⟩
theorem frees_le (k : Int) (B : Int) (hB : 0 ≤ B) (l : List Tm) (p : Nat) (h : ∀ x ∈ l, x.freeN ≤ B) : frees k p l ≤ B := by
  induction l generalizing p with
  | nil => simpa [frees] using hB
  | cons a r ih =>
    simp only [frees]
    have h1 := ih (p + 1) (fun x hx => h x (List.mem_cons_of_mem _ hx))
    have h2 := h a List.mem_cons_self
    have h3 : 0 ≤ bindsN k p := by unfold bindsN; (repeat' split) <;> omega
    omega
theorem binds_range (k i : Int) : 0 ≤ bindsN k i ∧ bindsN k i ≤ 2 := by unfold bindsN; (repeat' split) <;> omega
theorem Tm.free_range (t : Tm) : t.rightB = true → 0 ≤ t.freeN ∧ t.freeN ≤ 2147483648 := by
  induction t using Tm.ind with
  | h t ih =>
    intro h
    rw [t.freeN_eq]
    split
    · rename_i hk; have := t.right_var h hk; omega
    · exact ⟨frees_nonneg _ _ _, frees_le _ _ (by omega) _ _ (fun x hx => (ih x hx (t.right_kids h x hx)).2)⟩

set_option maxHeartbeats 800000 in
theorem free_any (t : Tm) : ∀ (w : World) (s : Value), Lies w t.kids s → t.rightB = true → Calls Try.prog 69 #[tv t s] w fun e w' => e = .returned (.int .i64 t.freeN) ∧ Below w.heap.size w w' := by
  induction t using Tm.ind with
  | h t ih =>
    intro w s hl hr
    obtain ⟨a, cap, S, rfl, hc, hm, hf, hn, hk⟩ := hl.out
    unfold tv
    unfold maxLen at hm
    have HF := Lib.hid (t.freeN_eq)
    have HR := Lib.hid (t.right_kids hr)
    have IH := Lib.hid ih
    have HN := Lib.hid hn
    have HK := Lib.hid hk
    have HBX := Lib.hid (fun (wr : World) => box_cells (w := w) (wr := wr) (v0 := .int .i64 t.k) (v1 := .int .i64 t.i) (v2 := .int .i64 t.j) (v3 := .int .i64 t.n) (v4 := .slice a t.kids.length cap) (T := 26))
    clear ih hn hk hf hl
    by_cases h2 : t.k = 2
    · have hv := t.right_var hr h2
      have e2 : (t.k == 2) = true := by simpa using h2
      have H2 := Lib.hid h2
      clear h2 hr
      go_enter Try.func69, Try.ntmps69
      go_wp2
      go_ret
      exact ⟨ret_int (by rw [HF.out, if_pos H2.out]), (Below.refl _ _).alloc (Nat.le_refl _) _⟩
    have e2 : (t.k == 2) = false := by simpa using h2
    have H2 := Lib.hid h2
    have HFB := Lib.hid (fun (x : Tm) (hx : x ∈ t.kids) => x.free_range (t.right_kids hr x hx))
    clear h2 hr
    go_enter Try.func69, Try.ntmps69
    go_wp2
    go_loopw [3, 15] (fun n i wr => ∃ k : Nat, k ≤ t.kids.length ∧ i = .int .i64 k ∧ n = .int .i64 (frees t.k 0 (t.kids.take k)) ∧ Below (w.heap.size + 1) (w.alloc (.cells #[.int .i64 t.k, .int .i64 t.i, .int .i64 t.j, .int .i64 t.n, .slice a t.kids.length cap] 26)) wr) (fun n i _ => t.kids.length - (intOf i).toNat)
    case atStart => exact ⟨0, Nat.zero_le _, rfl, by simp [frees], Below.refl _ _⟩
    case round =>
      obtain ⟨k, hk, rfl, rfl, hb⟩ := hrel
      obtain ⟨d0, d1, d2, d3, d4⟩ := HBX.out _ hb
      have hb0 := below_of_box hb
      by_cases hlt : k < t.kids.length
      · obtain ⟨b, o, rfl, hx⟩ := HN.out k hlt
        have hy := hx.below hb0 hx.lt
        obtain ⟨c0, c1, c2, c3, c4⟩ := hy
        have hq := HK.out k hlt
        obtain ⟨a', cap', S', hS, -⟩ := hq.out
        rw [hS] at c4 hq
        have HM := Lib.hid (List.getElem_mem hlt)
        have HB2 : Below (w.heap.size + 1) (w.alloc (.cells #[.int .i64 t.k, .int .i64 t.i, .int .i64 t.j, .int .i64 t.n, .slice (some ⟨b, o, none⟩) t.kids.length cap] 26)) (wr.alloc (.cells #[.int .i64 t.kids[k].k, .int .i64 t.kids[k].i, .int .i64 t.kids[k].j, .int .i64 t.kids[k].n, .slice a' t.kids[k].kids.length cap'] 26)) := hb.alloc (by have := hb.size; simpa using this) _
        have HQ := Lib.hid (hq.keep (below_of_box HB2))
        have hsz2 : w.heap.size + 1 ≤ wr.heap.size := by have := hb.size; simpa using this
        obtain ⟨y0, y1, y2, y3, y4⟩ := HBX.out _ HB2
        clear hS hq
        have hfr := HFB.out _ HM.out
        have hbr := binds_range t.k k
        have HT := Lib.hid (frees_take t.k t.kids 0 k hlt)
        have hfn := frees_nonneg t.k (t.kids.take k) 0
        have HRK := Lib.hid (HR.out _ HM.out)
        have hfl : frees t.k 0 (t.kids.take k) ≤ 2147483648 := frees_le _ _ (by omega) _ _ (fun x hx => (HFB.out x (List.mem_of_mem_take hx)).2)
        go_wp2_with fail
        go_region_with (first | (go_at_call 81; refine (binds_any _ _ _).mono ?_; rintro e w' ⟨rfl, rfl⟩) | (go_at_call 69; refine (IH.out _ HM.out _ _ (HQ.out.keep (Below.refl _ _).drew) HRK.out).mono ?_; rintro e w' ⟨rfl, hb'⟩; have HB3 := below_call HB2.drew hb' (by simp; omega); obtain ⟨x0, x1, x2, x3, x4⟩ := HBX.out _ HB3))
        all_goals
          clear hfn hfl hb0
          go_wp2
          go_roundw
          case rel => exact ⟨k + 1, by omega, by go_num, by rw [HT.out, Nat.zero_add]; (try split) <;> go_num, HB3⟩
          case measure => simp [intOf]; omega
      · have : k = t.kids.length := by omega
        subst this
        go_wp2
        go_ret
        refine ⟨?_, hb0⟩
        rw [HF.out, if_neg H2.out, List.take_length]
        rfl

set_option maxHeartbeats 800000 in
theorem reffree_any (t : Tm) : ∀ (w : World) (s : Value), Lies w t.kids s → t.rightB = true → Calls Try.prog 54 #[tv t s] w fun e w' => e = .returned (.int .i64 t.freeN) ∧ Below w.heap.size w w' := by
  induction t using Tm.ind with
  | h t ih =>
    intro w s hl hr
    obtain ⟨a, cap, S, rfl, hc, hm, hf, hn, hk⟩ := hl.out
    unfold tv
    unfold maxLen at hm
    have HF := Lib.hid (t.freeN_eq)
    have HR := Lib.hid (t.right_kids hr)
    have IH := Lib.hid ih
    have HN := Lib.hid hn
    have HK := Lib.hid hk
    have HBX := Lib.hid (fun (wr : World) => box_cells (w := w) (wr := wr) (v0 := .int .i64 t.k) (v1 := .int .i64 t.i) (v2 := .int .i64 t.j) (v3 := .int .i64 t.n) (v4 := .slice a t.kids.length cap) (T := 26))
    clear ih hn hk hf hl
    by_cases h2 : t.k = 2
    · have hv := t.right_var hr h2
      have e2 : (t.k == 2) = true := by simpa using h2
      have H2 := Lib.hid h2
      clear h2 hr
      go_enter Try.func54, Try.ntmps54
      go_wp2
      go_ret
      exact ⟨ret_int (by rw [HF.out, if_pos H2.out]), (Below.refl _ _).alloc (Nat.le_refl _) _⟩
    have e2 : (t.k == 2) = false := by simpa using h2
    have H2 := Lib.hid h2
    have HFB := Lib.hid (fun (x : Tm) (hx : x ∈ t.kids) => x.free_range (t.right_kids hr x hx))
    clear h2 hr
    go_enter Try.func54, Try.ntmps54
    go_wp2
    go_loopw [3, 4] (fun n i wr => ∃ k : Nat, k ≤ t.kids.length ∧ i = .int .i64 k ∧ n = .int .i64 (frees t.k 0 (t.kids.take k)) ∧ Below (w.heap.size + 1) (w.alloc (.cells #[.int .i64 t.k, .int .i64 t.i, .int .i64 t.j, .int .i64 t.n, .slice a t.kids.length cap] 26)) wr) (fun n i _ => t.kids.length - (intOf i).toNat)
    case atStart => exact ⟨0, Nat.zero_le _, rfl, by simp [frees], Below.refl _ _⟩
    case round =>
      obtain ⟨k, hk, rfl, rfl, hb⟩ := hrel
      obtain ⟨d0, d1, d2, d3, d4⟩ := HBX.out _ hb
      have hb0 := below_of_box hb
      by_cases hlt : k < t.kids.length
      · obtain ⟨b, o, rfl, hx⟩ := HN.out k hlt
        have hy := hx.below hb0 hx.lt
        obtain ⟨c0, c1, c2, c3, c4⟩ := hy
        have hq := HK.out k hlt
        obtain ⟨a', cap', S', hS, -⟩ := hq.out
        rw [hS] at c4 hq
        have HQ := Lib.hid (hq.keep hb0)
        clear hS hq
        have HM := Lib.hid (List.getElem_mem hlt)
        have hfr := HFB.out _ HM.out
        have hbr := binds_range t.k k
        have HT := Lib.hid (frees_take t.k t.kids 0 k hlt)
        have hfn := frees_nonneg t.k (t.kids.take k) 0
        have HRK := Lib.hid (HR.out _ HM.out)
        have hfl : frees t.k 0 (t.kids.take k) ≤ 2147483648 := frees_le _ _ (by omega) _ _ (fun x hx => (HFB.out x (List.mem_of_mem_take hx)).2)
        go_wp2_with fail
        go_region_with (first | (go_at_call 78; refine (refbinds_any _ _ _).mono ?_; rintro e w' ⟨rfl, rfl⟩) | (go_at_call 54; refine (IH.out _ HM.out _ _ (HQ.out.keep (Below.refl _ _).drew) HRK.out).mono ?_; rintro e w' ⟨rfl, hb'⟩; have HB3 := below_call hb.drew hb' (by have := hb.size; simpa using this); obtain ⟨x0, x1, x2, x3, x4⟩ := HBX.out _ HB3))
        all_goals
          clear hfn hfl hb0
          go_wp2
          go_roundw
          case rel => exact ⟨k + 1, by omega, by go_num, by rw [HT.out, Nat.zero_add]; (try split) <;> go_num, HB3⟩
          case measure => simp [intOf]; omega
      · have : k = t.kids.length := by omega
        subst this
        go_wp2
        go_ret
        refine ⟨?_, hb0⟩
        rw [HF.out, if_neg H2.out, List.take_length]
        rfl

end Go.Proofs.Ytjhdcjjoignioaa
