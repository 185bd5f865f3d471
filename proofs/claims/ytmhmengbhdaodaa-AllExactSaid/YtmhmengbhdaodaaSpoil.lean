/-
  transhipkeep.Spoil turns what a call has made, and nothing else.
-/
import Derived.Test.YtmhmengbhdaodaaFill
namespace Go.Proofs.Ytmhmengbhdaodaa
open Go.RowKit

def spoilt : Tm := .mk (-7) 0 0 0 []
theorem spoilt_fine : spoilt.fine := by simp [spoilt, Tm.fine, I64, Tm.k, Tm.i, Tm.j, Tm.n]
theorem mem_size : ∀ (l : List Tm) (k : Nat) (h : k < l.length), (l[k]).size ≤ sizes l
  | a :: r, 0, _ => by simp only [List.getElem_cons_zero, sizes]; omega
  | a :: r, k + 1, h => by have := mem_size r k (by simpa using h); simp only [List.getElem_cons_succ, sizes]; omega

/-- The box of a spoilt term stays. -/
theorem shr_box {P : Nat → Prop} {H : Nat} (hPH : ∀ b, P b → b < H) {w wr : World} {t : Tm} {s : Value} (hH : H ≤ w.heap.size) (h : Shr P (w.alloc (boxOf t s)) wr) :
    wr.cell? ⟨w.heap.size, 0, none⟩ = some (.int .i64 t.k) ∧ wr.cell? ⟨w.heap.size, 1, none⟩ = some (.int .i64 t.i) ∧ wr.cell? ⟨w.heap.size, 2, none⟩ = some (.int .i64 t.j) ∧ wr.cell? ⟨w.heap.size, 3, none⟩ = some (.int .i64 t.n) ∧ wr.cell? ⟨w.heap.size, 4, none⟩ = some s := by
  have hb := h.2.2.2.1 w.heap.size (by simp) (fun hp => by have := hPH _ hp; omega)
  rw [alloc_new] at hb
  have key : ∀ o, wr.cell? ⟨w.heap.size, o, none⟩ = (#[.int .i64 t.k, .int .i64 t.i, .int .i64 t.j, .int .i64 t.n, s] : Array Value)[o]? := fun o => by
    unfold World.cell?
    rw [show (⟨w.heap.size, o, none⟩ : Addr).block = w.heap.size from rfl, hb]; rfl
  exact ⟨by rw [key]; rfl, by rw [key]; rfl, by rw [key]; rfl, by rw [key]; rfl, by rw [key]; rfl⟩

theorem Shr.refl {P : Nat → Prop} {w : World} (h : Free P w) : Shr P w w := ⟨h, Nat.le_refl _, ⟨rfl, rfl, rfl⟩, fun _ _ _ => rfl, fun l _ hl => ⟨l, rfl, Nat.le_refl _, hl⟩⟩

theorem open_unfrozen {w : World} {b : Nat} {cs : Array Value} {T : TypeId} (h : w.heap[b]? = some (.cells cs T (0, 0))) (q : Nat) : w.frozen? ⟨b, q, none⟩ = false := by
  unfold World.frozen?
  rw [show (⟨b, q, none⟩ : Addr).block = b from rfl, h]; rfl

def Spoils (P : Nat → Prop) (w : World) (e : Ending) (w' : World) : Prop := e = .returned (.tuple #[]) ∧ Shr P w w'

set_option maxHeartbeats 2000000 in
theorem spoil_any (P : Nat → Prop) (H : Nat) (hPH : ∀ b, P b → b < H) : ∀ (n : Nat) (t : Tm) (w : World) (s : Value), t.size ≤ n → LiesP w P t.kids s → Free P w → H ≤ w.heap.size → Calls Try.prog 13 #[tv t s] w (Spoils P w) := by
  intro n
  induction n with
  | zero => intro t w s hn; rw [t.size_eq] at hn; omega
  | succ n ih =>
    intro t w s hn hl hf hH
    have hshr := Shr.alloc (w := w) (boxOf t s) (fun b hb => by have := hPH b hb; omega) hf
    have hlb := (hl.keep (w' := w.alloc (boxOf t s)) (Q := P) (fun b hb hlt => Below.heap_alloc _ _ _ hlt) (fun _ h _ => h))
    have hlies := hl.lies
    obtain ⟨a, cap, S, rfl, hc, hm, -, -, -⟩ := hlies.out
    rw [t.size_eq] at hn
    unfold tv
    unfold maxLen at hm
    have IH := Lib.hid ih
    have HL := Lib.hid hlb
    have HP := Lib.hid hPH
    clear ih hl hlb hlies hf
    go_enter Try.func13, Try.ntmps13
    go_wp2
    go_loopw [2] (fun i wr => ∃ k : Nat, k ≤ t.kids.length ∧ i = .int .i64 k ∧ Shr P (w.alloc (boxOf t (.slice a t.kids.length cap))) wr) (fun i _ => t.kids.length - (intOf i).toNat)
    case atStart => exact ⟨0, Nat.zero_le _, rfl, Shr.refl hshr.1⟩
    case round =>
      obtain ⟨k, hk, rfl, hs⟩ := hrel
      obtain ⟨d0, d1, d2, d3, d4⟩ := shr_box HP.out hH hs
      have hsz := hs.2.1
      simp at hsz
      by_cases hlt : k < t.kids.length
      · obtain ⟨l, hll, hls, hlp⟩ := hs.2.2.2.2 _ _ HL.out
        rw [← hll] at hlp hlt
        have hsl := hs
        cases hlp with
        | mk _ _ _ S1 hc1 hm1 hf1 hn1 hk1 =>
        obtain ⟨b, rfl, hpb, hx⟩ := hn1 k hlt
        obtain ⟨c0, c1, c2, c3, c4⟩ := hx
        have hq := hk1 k hlt
        obtain ⟨a', cap', S', hS, -⟩ := hq.lies.out
        rw [hS] at c4 hq
        have HQ := Lib.hid hq
        have HSZ := Lib.hid (mem_size l k hlt)
        have hlt' : k < t.kids.length := by omega
        have HF := Lib.hid hs.1
        have HS := Lib.hid hs
        clear hS hq hf1 hn1 hk1 hs hsl hll
        go_wp2_with fail
        refine (IH.out (l[k]) wr _ (by have := HSZ.out; omega) HQ.out HF.out (by omega)).mono ?_
        rintro e w2 ⟨rfl, hs2⟩
        have hs3 := HS.out.trans hs2
        obtain ⟨l2, hll2, -, hlp2⟩ := hs3.2.2.2.2 _ _ HL.out
        rw [← hll2] at hlp2
        have hlt2 : k < l2.length := by omega
        cases hlp2 with
        | mk _ _ _ S2 _ _ _ hn2 _ =>
        obtain ⟨b2, hb2, hpb2, hx2⟩ := hn2 k hlt2
        obtain rfl : b = b2 := by simpa using hb2
        obtain ⟨d0, d1, d2, d3, d4⟩ := shr_box HP.out hH hs3
        have hop := hs3.1 b hpb
        obtain ⟨cs, hcs⟩ := hop
        have f0 := open_unfrozen hcs (k * 5)
        have f1 := open_unfrozen hcs (k * 5 + 1)
        have f2 := open_unfrozen hcs (k * 5 + 2)
        have f3 := open_unfrozen hcs (k * 5 + 3)
        have f4 := open_unfrozen hcs (k * 5 + 4)
        have HX2 := Lib.hid hx2
        obtain ⟨g0, g1, g2, g3, g4⟩ := hx2
        have HS3 := Lib.hid hs3
        clear hs3 hs2 hn2 hb2 hcs hll2
        go_wp2
        go_roundw
        case rel =>
          refine ⟨k + 1, by omega, by go_num, HS3.out.trans (Shr.put (g := b) (j := k) (z := spoilt) rfl spoilt_fine HS3.out.1 hpb)⟩
        case measure => simp [intOf]; omega
      · have : k = t.kids.length := by omega
        subst this
        go_wp2
        go_end0
        exact ⟨rfl, hshr.trans hs⟩
end Go.Proofs.Ytmhmengbhdaodaa
