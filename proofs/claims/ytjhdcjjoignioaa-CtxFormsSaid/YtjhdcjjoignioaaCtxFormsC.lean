/-
  CtxForms holds: for every input the call returns true, and the arguments read as before. No condition.
-/
import Derived.Test.YtjhdcjjoignioaaPcC
import Derived.Test.YtjhdcjjoignioaaBox
import Derived.Test.YtjhdcjjoignioaaRows
import Derived.ProofKit
import Derived.OpenShut
import Derived.Carry
import Derived.Deep.Slices
import Derived.Test.YtjhdcjjoignioaaPcA
import Derived.ChangeSlices
import Derived.JoinedOf
/-! Plain facts on contexts: what is erased is a context, and its own erasure. -/
namespace Go.Proofs.Ytjhdcjjoignioaa
open Go.RowKit

theorem und_free (t : Tm) : t.markedB = true → t.und.freeN ≤ t.freeN := by
  induction t using Tm.ind with
  | h t ih =>
    intro h
    by_cases hk : t.k = 12
    · obtain ⟨a, b, p, x, hkids, -, -, -, hx⟩ := marked_tr h hk
      rw [und_tr hk hkids]
      have h1 := ih x (by rw [hkids]; simp) hx
      have h2 : frees t.k 0 t.kids = t.freeN := by rw [t.freeN_eq, if_neg (by omega)]
      have h3 : x.freeN ≤ frees t.k 0 t.kids := by
        rw [hk, hkids]
        simp only [frees]
        have hb : bindsN 12 ((0 + 1 + 1 + 1 : Nat) : Int) = 0 := by decide
        have : x.freeN - bindsN 12 ((0 + 1 + 1 + 1 : Nat) : Int) = x.freeN := by rw [hb]; omega
        omega
      omega
    · rw [und_other hk]; exact Int.le_refl _
theorem frees_map (f : Tm → Tm) (k : Int) : ∀ (l : List Tm) (p : Nat), (∀ x ∈ l, (f x).freeN ≤ x.freeN) → frees k p (l.map f) ≤ frees k p l
  | [], _, _ => by simp [frees]
  | t :: r, p, h => by
    have h1 := h t List.mem_cons_self
    have h2 := frees_map f k r (p + 1) (fun x hx => h x (List.mem_cons_of_mem _ hx))
    simp only [List.map_cons, frees]
    omega
theorem pur_free_n (n : Nat) : ∀ t : Tm, t.size ≤ n → t.markedB = true → t.pur.freeN ≤ t.freeN := by
  induction n with
  | zero => intro t hs; have := t.size_eq; omega
  | succ n ih =>
    intro t hs h
    obtain ⟨hm, hk, hz⟩ := und_marked t h
    have hu := und_free t h
    rw [pur_und t h]
    have e : (Tm.mk t.und.k t.und.i t.und.j 0 (t.und.kids.map Tm.pur)).freeN = if t.und.k = 2 then t.und.i + 1 else frees t.und.k 0 (t.und.kids.map Tm.pur) := by simp only [Tm.freeN]
    rw [e]
    have e2 := t.und.freeN_eq
    by_cases h2 : t.und.k = 2
    · rw [if_pos h2] at e2 ⊢; omega
    · rw [if_neg h2] at e2 ⊢
      have := frees_map Tm.pur t.und.k t.und.kids 0 (fun x hx => ih x (by have := size_mem _ x hx; have := t.und.size_eq; omega) (marked_others hm hk x hx))
      omega
theorem erase_good {k : Nat} {e : En} (h : goodE k e = true) : goodE k ⟨e.a.eraseB, e.i⟩ = true := by
  rw [goodE_iff] at h ⊢
  obtain ⟨h0, h1, h2, h3⟩ := h
  have hp := eraseB_good h2
  have hpm := (pur_marked e.a h2).1
  refine ⟨h0, h1, by rw [hp]; exact hpm, ?_⟩
  have hf := pur_free_n _ e.a (Nat.le_refl _) h2
  show (e.a.eraseB).freeB ≤ _
  rw [hp]
  unfold Tm.freeB at h3 ⊢
  rw [if_pos (marked_right hpm)]
  rw [if_pos (marked_right h2)] at h3
  omega
theorem eraseC_right {l : List En} (h : rightC l = true) : rightC (eraseC l) = true := by
  unfold eraseC
  rw [if_pos h, rightC_iff]
  intro k hk
  simp only [List.length_map] at hk
  simp only [List.getElem_map]
  exact erase_good (rightC_at h hk)
theorem eraseC_length {l : List En} (h : rightC l = true) : (eraseC l).length = l.length := by unfold eraseC; rw [if_pos h, List.length_map]
theorem plainC_length {l : List En} (h : rightC l = true) : (plainC l).length = l.length := by unfold plainC; rw [if_pos h, List.length_map]
theorem erase_twice {t : Tm} (h : t.markedB = true) : t.eraseB.eraseB = t.eraseB := by
  rw [eraseB_good h]
  obtain ⟨h1, h2⟩ := pur_marked t h
  rw [eraseB_good h1, pur_id _ h1 h2]
theorem right_marked {l : List En} (h : rightC l = true) : ∀ e ∈ l, e.a.markedB = true := by
  intro e he
  obtain ⟨k, hk, rfl⟩ := List.getElem_of_mem he
  exact (goodE_iff.1 (rightC_at h hk)).2.2.1
theorem eraseC_twice {l : List En} (h : rightC l = true) : eraseC (eraseC l) = eraseC l := by
  have h2 := eraseC_right h
  have e : eraseC l = l.map (fun e => (⟨e.a.eraseB, e.i⟩ : En)) := by unfold eraseC; rw [if_pos h]
  have e2 : eraseC (eraseC l) = (eraseC l).map (fun e => (⟨e.a.eraseB, e.i⟩ : En)) := by rw [eraseC, if_pos h2]
  rw [e2, e, List.map_map]
  apply List.map_congr_left
  intro x hx
  simp only [Function.comp, erase_twice (right_marked h x hx)]
theorem zero_fine' : Tm.zero.fine := by simp [Tm.zero, Tm.fine, I64, Tm.k, Tm.i, Tm.j, Tm.n]
end Go.Proofs.Ytjhdcjjoignioaa

/-! The walk of transhiplaw11.CtxForms. -/
namespace Go.Proofs.Ytjhdcjjoignioaa
open Go.RowKit

theorem keepterms_any (l m : List Tm) (w : World) (s r : Value) (hl : Lies w l s) (hm : Lies w m r) : Calls Try.prog 20 #[s, r] w fun e w' => e = .returned (.bool (samesB l m)) ∧ Below w.heap.size w w' :=
  terms_of l (fun x _ y w s r hx hy => keepsame_any x y w s r hx hy) m w s r hl hm
theorem samesB_self : ∀ l : List Tm, samesB l l = true
  | [] => by simp [samesB]
  | x :: r => by simp [samesB, sameB_self, samesB_self r]
theorem strip_fine (t : Tm) : t.stripB.fine := by
  unfold Tm.stripB
  by_cases h : t.rightB = true
  · rw [if_pos h]; exact right_fine (plain_right (bare_plain t h))
  · rw [if_neg h]; exact zero_fine
theorem erase_fine (t : Tm) : t.eraseB.fine := by
  unfold Tm.eraseB
  by_cases h : t.markedB = true
  · rw [if_pos h]; exact right_fine (marked_right (pur_marked t h).1)
  · rw [if_neg h]; exact zero_fine
theorem liesE_fine {w : World} {l : List En} {s : Value} (h : LiesE w l s) : ∀ u ∈ l, (⟨u.a.eraseB, u.i⟩ : En).fine := fun u hu => by
  obtain ⟨a, cap, S, hs, hc, hm, hf, hn, hk⟩ := h.out
  exact ⟨erase_fine _, (hf u hu).2⟩

set_option maxRecDepth 20000 in
set_option maxHeartbeats 4000000 in
theorem ctxForms_any (l : List En) (w : World) (s : Value) (hl : LiesE w l s) : Calls Try.prog 4 #[s] w fun e w' => e = .returned (.bool true) ∧ Below w.heap.size w w' := by
  obtain ⟨a, cap, S, rfl, -⟩ := hl.out
  have HL := Lib.hid hl
  clear hl
  go_enter Try.func4, Try.ntmps4
  go_wp2_with fail
  refine (greatctx_any l 300 _ _ HL.out (by omega)).mono ?_
  rintro e w1 ⟨g, rfl, hg, hb1⟩
  have HG := Lib.hid hg
  clear hg
  cases g with
  | true =>
    go_wp2
    go_ret
    exact ⟨rfl, hb1⟩
  | false =>
    obtain ⟨hlen, hsz⟩ := HG.out rfl
    have HSZ : Hid (∀ u ∈ l, u.a.size ≤ 1000000) := fun u hu => by have := (hsz u hu).1; omega
    have HLE := Lib.hid hlen
    clear HG hsz hlen
    have HX : Hid ((eraseC l).length ≤ 300 ∧ (plainC l).length ≤ 300) := by
      have := HLE.out
      unfold eraseC plainC
      constructor <;> split <;> simp <;> omega
    go_wp2_with fail
    refine (twinctx_any l _ _ (HL.out.keep hb1) (by have := HLE.out; omega) HSZ.out).mono ?_
    rintro e w2 ⟨s2, rfl, hl2, hb2⟩
    obtain ⟨a2, cap2, S2, rfl, -⟩ := hl2.out
    have hi := hl2.lies
    have hb02 := below_call hb1 hb2 hb1.size
    clear hl2 hb2 hb1
    go_wp2_with fail
    refine (ctxerase_any l _ _ hi (by have := HLE.out; omega) (liesE_fine hi)).mono ?_
    rintro e w3 ⟨s3, rfl, hl3, hb3⟩
    have hx : LiesE w3 (eraseC l) s3 := hl3.lies
    obtain ⟨a3, cap3, S3, rfl, -⟩ := hx.out
    have hb03 := below_call hb02 hb3 hb02.size
    have hi3 := hi.keep hb3
    clear hl3 hb3 hb02 hi
    go_wp2_with fail
    refine (ctxplain_any l _ _ hi3 (by have := HLE.out; omega) (fun u _ => strip_fine u.a)).mono ?_
    rintro e w4 ⟨s4, rfl, hl4, hb4⟩
    have hy : Lies w4 (plainC l) s4 := hl4.lies
    obtain ⟨a4, cap4, S4, rfl, -⟩ := hy.out
    have hb04 := below_call hb03 hb4 hb03.size
    have hi4 := hi3.keep hb4
    have hx4 := hx.keep hb4
    clear hl4 hb4 hb03 hi3 hx
    go_wp2_with fail
    refine (refctxerase_any l _ _ (HL.out.keep hb04) (by have := HLE.out; omega) (liesE_fine hi4)).mono ?_
    rintro e w5 ⟨s5, rfl, hl5, hb5⟩
    have hz : LiesE w5 (eraseC l) s5 := hl5.lies
    obtain ⟨a5, cap5, S5, rfl, -⟩ := hz.out
    have hb05 := below_call hb04 hb5 hb04.size
    have hi5 := hi4.keep hb5
    have hx5 := hx4.keep hb5
    have hy5 := hy.keep hb5
    clear hl5 hb5 hb04 hi4 hx4 hy
    go_wp2_with fail
    refine (keepctx_any (eraseC l) (eraseC l) _ _ _ hx5 hz).mono ?_
    rw [ctxB_self]
    rintro e w6 ⟨rfl, hb6⟩
    have hb06 := below_call hb05 hb6 hb05.size
    have hi6 := hi5.keep hb6
    have hx6 := hx5.keep hb6
    have hy6 := hy5.keep hb6
    clear hb6 hb05 hi5 hx5 hy5 hz
    go_wp2_with fail
    refine (refctxplain_any l _ _ (HL.out.keep hb06) (by have := HLE.out; omega) (fun u _ => strip_fine u.a)).mono ?_
    rintro e w7 ⟨s7, rfl, hz, hb7⟩
    obtain ⟨a7, cap7, S7, rfl, -⟩ := hz.out
    have hb07 := below_call hb06 hb7 hb06.size
    have hi7 := hi6.keep hb7
    have hx7 := hx6.keep hb7
    have hy7 := hy6.keep hb7
    clear hb7 hb06 hi6 hx6 hy6
    go_wp2_with fail
    refine (keepterms_any (plainC l) (plainC l) _ _ _ hy7 hz).mono ?_
    rw [samesB_self]
    rintro e w8 ⟨rfl, hb8⟩
    have hb08 := below_call hb07 hb8 hb07.size
    have hi8 := hi7.keep hb8
    have hx8 := hx7.keep hb8
    have hy8 := hy7.keep hb8
    clear hb8 hb07 hi7 hx7 hy7 hz
    go_wp2_with fail
    refine (refctxright_any l _ _ (HL.out.keep hb08)).mono ?_
    cases hr : rightC l with
    | false =>
      rintro e w9 ⟨rfl, hb9⟩
      have hb09 := below_call hb08 hb9 hb08.size
      have he0 : (eraseC l).length = 0 := by unfold eraseC; rw [if_neg (by rw [hr]; decide)]; rfl
      have hp0 : (plainC l).length = 0 := by unfold plainC; rw [if_neg (by rw [hr]; decide)]; rfl
      clear hi8 hx8 hy8 hb9 hb08
      go_wp2_with fail
      refine (wakes11_any _).mono ?_
      rintro e w10 ⟨rfl, hb10⟩
      have hb010 := below_call hb09 hb10 hb09.size
      go_wp2
      go_ret
      exact ⟨rfl, hb010⟩
    | true =>
      have HR := Lib.hid hr
      rintro e w9 ⟨rfl, hb9⟩
      have hb09 := below_call hb08 hb9 hb08.size
      have hi9 := hi8.keep hb9
      have hx9 := hx8.keep hb9
      have HEL := Lib.hid (eraseC_length hr)
      have HPL := Lib.hid (plainC_length hr)
      clear hi8 hx8 hy8 hb9 hb08 hr
      go_wp2_with fail
      refine (keepctx_any l l _ _ _ hi9 (HL.out.keep hb09)).mono ?_
      rw [ctxB_self]
      rintro e w10 ⟨rfl, hb10⟩
      have hb010 := below_call hb09 hb10 hb09.size
      have hx10 := hx9.keep hb10
      clear hi9 hx9 hb10 hb09
      go_wp2_with fail
      refine (ctxright_any (eraseC l) _ _ hx10).mono ?_
      rw [eraseC_right HR.out]
      rintro e w11 ⟨rfl, hb11⟩
      have hb011 := below_call hb010 hb11 hb010.size
      have hx11 := hx10.keep hb11
      have e1 : (((eraseC l).length : Int) == (l.length : Int)) = true := by rw [HEL.out]; simp
      have e2 : (((plainC l).length : Int) == (l.length : Int)) = true := by rw [HPL.out]; simp
      clear hx10 hb11 hb010
      go_wp2_with fail
      refine (ctxerase_any (eraseC l) _ _ hx11 (by have := HX.out.1; omega) (liesE_fine hx11)).mono ?_
      rintro e w12 ⟨s12, rfl, hl12, hb12⟩
      have hz : LiesE w12 (eraseC (eraseC l)) s12 := hl12.lies
      rw [eraseC_twice HR.out] at hz
      obtain ⟨a12, cap12, S12, rfl, -⟩ := hz.out
      have hb012 := below_call hb011 hb12 hb011.size
      have hx12 := hx11.keep hb12
      clear hl12 hx11 hb12 hb011 e1 e2
      go_wp2_with fail
      refine (keepctx_any (eraseC l) (eraseC l) _ _ _ hz hx12).mono ?_
      rw [ctxB_self]
      rintro e w13 ⟨rfl, hb13⟩
      have hb013 := below_call hb012 hb13 hb012.size
      clear hz hx12 hb13 hb012
      go_wp2_with fail
      refine (wakes11_any _).mono ?_
      rintro e w14 ⟨rfl, hb14⟩
      have hb014 := below_call hb013 hb14 hb013.size
      go_wp2
      go_ret
      exact ⟨rfl, hb014⟩
end Go.Proofs.Ytjhdcjjoignioaa

/-! A term that is handed in, opened: it is a tree that lies in the world. -/
namespace Go.Proofs.Ytjhdcjjoignioaa
open Go.ChangeShapes Go.WideShapes Go.ChangeAt Go.RowKit

theorem own : ownKnob Try.prog.godebug = none := by kernel_rfl
theorem cells_int : Try.prog.cellsOf 3 = 1 := by kernel_rfl
theorem cells_kids : Try.prog.cellsOf 24 = 1 := by kernel_rfl
theorem cells_term : Try.prog.cellsOf 26 = 5 := by kernel_rfl
theorem laidOut : laidOutB Try.prog = true := by kernel_rfl

instance instOpenTm : Inhabited (Tm × Value) := ⟨(.mk 0 0 0 0 [], .nilIface)⟩

theorem list5 {α : Type} {l : List α} (h : l.length = 5) : ∃ a b c d e, l = [a, b, c, d, e] := by
  match l, h with
  | [a, b, c, d, e], _ => exact ⟨a, b, c, d, e, rfl⟩

theorem wf_I64 {x : Int} (h : (Lit.int .i64 x).wf = true) : I64 x := by
  simp [Lit.wf] at h
  have hm : IntKind.i64.min = -9223372036854775808 := by decide
  rw [hm] at h
  exact h

set_option maxRecDepth 100000 in
theorem open_term {H : Type} {enc : TypeId × Value → H} {w : World} {base : Nat} {sp : Nat → Bool} {hd : Bool} : ∀ (fuel : Nat) (cs : List Value) (x : DataW H × List MemPlace),
    DataW.trod enc Try.prog w base sp hd fuel 26 cs = some x → ∃ (t : Tm) (s : Value), cs = [.int .i64 t.k, .int .i64 t.i, .int .i64 t.j, .int .i64 t.n, s] ∧ t.fine ∧ Lies w t.kids s := by
  intro fuel
  induction fuel using Nat.strongRecOn with
  | _ fuel ih =>
    intro cs x h
    obtain ⟨xs, n, rfl, rfl, hl, hlen, hf⟩ := DataW.trod_struct Try.underlying26 h
    rw [cells_term] at hl
    obtain ⟨v0, v1, v2, v3, v4, rfl⟩ := list5 hl
    obtain ⟨y0, y1, y2, y3, y4, rfl⟩ := list5 hlen
    have g0 := hf 0 _ rfl
    have g1 := hf 1 _ rfl
    have g2 := hf 2 _ rfl
    have g3 := hf 3 _ rfl
    have g4 := hf 4 _ rfl
    simp [cells_int, cells_kids] at g0 g1 g2 g3 g4
    obtain ⟨k, e0, -, w0⟩ := DataW.trod_int Try.underlying3 g0
    obtain ⟨i, e1, -, w1⟩ := DataW.trod_int Try.underlying3 g1
    obtain ⟨j, e2, -, w2⟩ := DataW.trod_int Try.underlying3 g2
    obtain ⟨m, e3, -, w3⟩ := DataW.trod_int Try.underlying3 g3
    simp at e0 e1 e2 e3
    subst e0 e1 e2 e3
    rcases DataW.trod_slice Try.underlying24 g4 with ⟨e4, -⟩ | ⟨a, len, cap, elems, rest, n', rfl, e4, -, hb, hlc, hm, hlen', hel, -, -⟩
    · simp at e4
      subst e4
      exact ⟨.mk k i j m [], _, rfl, ⟨wf_I64 w0, wf_I64 w1, wf_I64 w2, wf_I64 w3⟩, .mk [] none 0 (fun _ => .nilIface) (Nat.le_refl _) (by decide) (fun _ h => by cases h) (fun _ h => by cases h) (fun _ h => by cases h)⟩
    · simp at e4
      subst e4
      have key : ∀ i, i < len → ∃ p : Tm × Value, p.1.fine ∧ Lies w p.1.kids p.2 ∧ ∃ b o, a = ⟨b, o, none⟩ ∧ Node w b (o + i * 5) p.1 p.2 := by
        intro i hi
        have h1 := hel i hi
        rw [cells_term, List.getElem?_eq_getElem (by omega)] at h1
        obtain ⟨cs', h2, h3⟩ := Option.bind_eq_some_iff.1 h1
        obtain ⟨t, s, rfl, hfine, hlies⟩ := ih n' (by omega) _ _ h3
        obtain ⟨-, -, hcell⟩ := World.cells?_some h2
        have hs0 : a.spot = none := by
          have h1 := hel 0 (by omega)
          rw [cells_term, List.getElem?_eq_getElem (by omega)] at h1
          obtain ⟨cs0, h2, -⟩ := Option.bind_eq_some_iff.1 h1
          obtain ⟨-, hl0, hc0⟩ := World.cells?_some h2
          have c0 := hc0 0 (by omega)
          rw [List.getElem?_eq_getElem (by omega)] at c0
          simpa [Addr.add] using World.cell?_spot c0
        obtain ⟨b, o, spot⟩ := a
        simp only at hs0
        subst hs0
        refine ⟨(t, s), hfine, hlies, b, o, rfl, ?_⟩
        have hc : ∀ q, q < 5 → w.cell? ⟨b, o + i * 5 + q, none⟩ = [Value.int .i64 t.k, .int .i64 t.i, .int .i64 t.j, .int .i64 t.n, s][q]? := fun q hq => by
          have := hcell q hq
          rwa [add_plain, add_plain] at this
        exact ⟨hc 0 (by omega), hc 1 (by omega), hc 2 (by omega), hc 3 (by omega), hc 4 (by omega)⟩
      obtain ⟨f, hf'⟩ := Go.Deep.choose_lt (α := Tm × Value) (p := fun i p => p.1.fine ∧ Lies w p.1.kids p.2 ∧ ∃ b o, a = ⟨b, o, none⟩ ∧ Node w b (o + i * 5) p.1 p.2) key
      have hl5 : ((List.range len).map fun i => (f i).1).length = len := by simp
      refine ⟨.mk k i j m ((List.range len).map fun i => (f i).1), _, rfl, ⟨wf_I64 w0, wf_I64 w1, wf_I64 w2, wf_I64 w3⟩, ?_⟩
      have := Lies.mk (w := w) ((List.range len).map fun i => (f i).1) (some a) cap (fun i => (f i).2) (by simpa using hlc) hm
        (fun x hx => by
          obtain ⟨i, hi, rfl⟩ := List.mem_map.1 hx
          exact (hf' i (List.mem_range.1 hi)).1)
        (fun i hi => by
          obtain ⟨b, o, ha, hn⟩ := (hf' i (by simpa using hi)).2.2
          exact ⟨b, o, by rw [ha], by simpa using hn⟩)
        (fun i hi => by simpa using (hf' i (by simpa using hi)).2.1)
      rwa [hl5] at this
set_option maxRecDepth 100000 in
/-- The same for an argument. -/
theorem open_arg {H : Type} {enc : TypeId × Value → H} {W : World} {r : Reach} {b0 base : Nat} {sp : Nat → Bool} {hd : Bool} {v : Value} {d : DataW H} {p : List MemPlace} (hv : Value.okWide Try.prog W r b0 26 v)
    (h : DataW.Trod enc Try.prog W base sp hd 26 v d p) : ∃ (t : Tm) (s : Value), Lies W t.kids s ∧ v = tv t s := by
  obtain ⟨cs, rfl, hsz⟩ := okWide_struct Try.underlying26 hv
  obtain ⟨fuel, hf⟩ := h
  obtain ⟨t, s, hcs, -, hl⟩ := open_term fuel _ _ hf
  refine ⟨t, s, hl, ?_⟩
  have : cs.toList = [.int .i64 t.k, .int .i64 t.i, .int .i64 t.j, .int .i64 t.n, s] := by simpa [Value.cells] using hcs
  rw [show cs = #[.int .i64 t.k, .int .i64 t.i, .int .i64 t.j, .int .i64 t.n, s] from by cases cs; simp_all]

end Go.Proofs.Ytjhdcjjoignioaa

/-! Entries that are handed in, opened. -/
namespace Go.Proofs.Ytjhdcjjoignioaa
open Go.ChangeShapes Go.WideShapes Go.ChangeAt Go.RowKit

theorem cells_entry : Try.prog.cellsOf 38 = 6 := by kernel_rfl
instance instOpenEn : Inhabited (En × Value) := ⟨(⟨.mk 0 0 0 0 [], 0⟩, .nilIface)⟩
theorem list6 {α : Type} {l : List α} (h : l.length = 6) : ∃ a b c d e f, l = [a, b, c, d, e, f] := by
  match l, h with
  | [a, b, c, d, e, f], _ => exact ⟨a, b, c, d, e, f, rfl⟩
theorem list2 {α : Type} {l : List α} (h : l.length = 2) : ∃ a b, l = [a, b] := by
  match l, h with
  | [a, b], _ => exact ⟨a, b, rfl⟩

set_option maxRecDepth 100000 in
theorem open_entry {H : Type} {enc : TypeId × Value → H} {w : World} {base : Nat} {sp : Nat → Bool} {hd : Bool} (fuel : Nat) (cs : List Value) (x : DataW H × List MemPlace)
    (h : DataW.trod enc Try.prog w base sp hd fuel 38 cs = some x) : ∃ (e : En) (s : Value), cs = [.int .i64 e.a.k, .int .i64 e.a.i, .int .i64 e.a.j, .int .i64 e.a.n, s, .int .i64 e.i] ∧ e.fine ∧ Lies w e.a.kids s := by
  obtain ⟨xs, n, rfl, rfl, hl, hlen, hf⟩ := DataW.trod_struct Try.underlying38 h
  rw [cells_entry] at hl
  obtain ⟨v0, v1, v2, v3, v4, v5, rfl⟩ := list6 hl
  obtain ⟨y0, y1, rfl⟩ := list2 hlen
  have g0 := hf 0 _ rfl
  have g1 := hf 1 _ rfl
  simp [cells_int, cells_term] at g0 g1
  obtain ⟨t, s, hcs, hfine, hlies⟩ := open_term n _ _ g0
  obtain ⟨i, e1, -, w1⟩ := DataW.trod_int Try.underlying3 g1
  simp at e1 hcs
  subst e1
  obtain ⟨rfl, rfl, rfl, rfl, rfl⟩ := hcs
  exact ⟨⟨t, i⟩, v4, rfl, ⟨hfine, wf_I64 w1⟩, hlies⟩

set_option maxRecDepth 100000 in
theorem open_argE {H : Type} {enc : TypeId × Value → H} {w : World} {r : Reach} {b0 base : Nat} {sp : Nat → Bool} {hd : Bool} {v : Value} {d : DataW H} {p : List MemPlace} (hv : Value.okWide Try.prog w r b0 22 v)
    (h : DataW.Trod enc Try.prog w base sp hd 22 v d p) : ∃ l : List En, LiesE w l v := by
  obtain ⟨a0, len0, cap0, rfl⟩ := okWide_slice Try.underlying22 hv
  obtain ⟨fuel, hf⟩ := h
  rcases DataW.trod_slice Try.underlying22 hf with ⟨e4, -⟩ | ⟨a, len, cap, elems, rest, n', rfl, e4, -, hb, hlc, hm, hlen', hel, -, -⟩
  · simp [Value.cells] at e4
    obtain ⟨rfl, rfl, rfl⟩ := e4
    exact ⟨[], liesE_nil _⟩
  · simp [Value.cells] at e4
    obtain ⟨rfl, rfl, rfl⟩ := e4
    have key : ∀ i, i < len0 → ∃ p : En × Value, p.1.fine ∧ Lies w p.1.a.kids p.2 ∧ ∃ b o, a = ⟨b, o, none⟩ ∧ ENode w b (o + i * 6) p.1 p.2 := by
      intro i hi
      have h1 := hel i hi
      rw [cells_entry, List.getElem?_eq_getElem (by omega)] at h1
      obtain ⟨cs', h2, h3⟩ := Option.bind_eq_some_iff.1 h1
      obtain ⟨t, s, rfl, hfine, hlies⟩ := open_entry n' _ _ h3
      obtain ⟨-, -, hcell⟩ := World.cells?_some h2
      have hs0 : a.spot = none := by
        have h1 := hel 0 (by omega)
        rw [cells_entry, List.getElem?_eq_getElem (by omega)] at h1
        obtain ⟨cs0, h2, -⟩ := Option.bind_eq_some_iff.1 h1
        obtain ⟨-, hl0, hc0⟩ := World.cells?_some h2
        have c0 := hc0 0 (by omega)
        rw [List.getElem?_eq_getElem (by omega)] at c0
        simpa [Addr.add] using World.cell?_spot c0
      obtain ⟨b, o, spot⟩ := a
      simp only at hs0
      subst hs0
      refine ⟨(t, s), hfine, hlies, b, o, rfl, ?_⟩
      have hc : ∀ q, q < 6 → w.cell? ⟨b, o + i * 6 + q, none⟩ = [Value.int .i64 t.a.k, .int .i64 t.a.i, .int .i64 t.a.j, .int .i64 t.a.n, s, .int .i64 t.i][q]? := fun q hq => by
        have := hcell q hq
        rwa [add_plain, add_plain] at this
      exact ⟨hc 0 (by omega), hc 1 (by omega), hc 2 (by omega), hc 3 (by omega), hc 4 (by omega), hc 5 (by omega)⟩
    obtain ⟨f, hf'⟩ := Go.Deep.choose_lt (α := En × Value) (p := fun i p => p.1.fine ∧ Lies w p.1.a.kids p.2 ∧ ∃ b o, a = ⟨b, o, none⟩ ∧ ENode w b (o + i * 6) p.1 p.2) key
    have hl5 : ((List.range len0).map fun i => (f i).1).length = len0 := by simp
    refine ⟨(List.range len0).map fun i => (f i).1, some a, cap0, (fun i => (f i).2), by rw [hl5], by simpa using hlc, hm, ?_, ?_, ?_⟩
    · intro x hx
      obtain ⟨i, hi, rfl⟩ := List.mem_map.1 hx
      exact (hf' i (List.mem_range.1 hi)).1
    · intro i hi
      obtain ⟨b, o, ha, hn⟩ := (hf' i (by simpa using hi)).2.2
      exact ⟨b, o, by rw [ha], by simpa using hn⟩
    · intro i hi
      simpa using (hf' i (by simpa using hi)).2.1
end Go.Proofs.Ytjhdcjjoignioaa

/-! The words of the cut's first line: the facts of a row that ask for them, each made once for all rows of the seat. -/
namespace Go.Proofs.Ytjhdcjjoignioaa
open Go.ChangeShapes Go.WideShapes

def code (l : List Nat) : List Char := l.map Char.ofNat
def joinN : List (List Nat) → List Nat
  | [] => []
  | [a] => a
  | a :: b :: r => a ++ 32 :: joinN (b :: r)

theorem words_one : ∀ a : List Nat, (a.all fun n => Char.ofNat n != Char.ofNat 32) = true → wordsSigns (code a) = [code a]
  | [], _ => rfl
  | n :: a, h => by
    simp only [List.all_cons, Bool.and_eq_true, bne_iff_ne] at h
    have ih := words_one a h.2
    show wordsSigns (Char.ofNat n :: code a) = _
    rw [wordsSigns]
    · rw [ih]; rfl
    · exact h.1
theorem words_more : ∀ (a : List Nat) (r : List Char), (a.all fun n => Char.ofNat n != Char.ofNat 32) = true → wordsSigns (code a ++ Char.ofNat 32 :: r) = code a :: wordsSigns r
  | [], r, _ => by
    show wordsSigns (Char.ofNat 32 :: r) = _
    rw [show Char.ofNat 32 = _ from rfl, wordsSigns]; rfl
  | n :: a, r, h => by
    simp only [List.all_cons, Bool.and_eq_true, bne_iff_ne] at h
    have ih := words_more a r h.2
    show wordsSigns (Char.ofNat n :: (code a ++ Char.ofNat 32 :: r)) = _
    rw [wordsSigns]
    · rw [ih]; rfl
    · exact h.1
theorem words_join : ∀ ws : List (List Nat), ws ≠ [] → (ws.all fun w => w.all fun n => Char.ofNat n != Char.ofNat 32) = true → wordsSigns (code (joinN ws)) = ws.map code
  | [], h, _ => absurd rfl h
  | [a], _, h => by simp only [List.all_cons, List.all_nil, Bool.and_true] at h; exact words_one a h
  | a :: b :: r, _, h => by
    have h' := h
    rw [List.all_cons, Bool.and_eq_true] at h'
    have ih := words_join (b :: r) (by simp) h'.2
    show wordsSigns (code (a ++ 32 :: joinN (b :: r))) = _
    rw [show code (a ++ 32 :: joinN (b :: r)) = code a ++ Char.ofNat 32 :: code (joinN (b :: r)) from by simp [code], words_more a _ h'.1, ih]; rfl

def cutWords : List (List Nat) := [[104, 97, 114, 110, 101, 115, 115],
  [56, 98, 52, 56, 53, 53, 52, 102, 48, 102, 100, 100, 54, 98, 54, 50, 98, 49, 55, 50, 99, 99, 54, 51, 101, 55, 101, 53, 99, 55, 54, 51, 52, 51, 101, 97, 100, 97, 56, 57, 55, 102, 48, 98, 52, 98, 97, 56, 51, 101, 98, 49, 49, 99, 48, 51, 99, 52, 55, 53, 51, 52, 102, 53],
  [99, 117, 116],
  [97, 116],
  [116, 114, 97, 110, 115, 104, 105, 112, 47, 116, 114, 97, 110, 115, 104, 105, 112, 108, 97, 119, 49, 49, 46, 67, 116, 120, 69, 120, 97, 99, 116],
  [116, 114, 97, 110, 115, 104, 105, 112, 47, 116, 114, 97, 110, 115, 104, 105, 112, 108, 97, 119, 49, 49, 46, 67, 116, 120, 70, 111, 114, 109, 115],
  [116, 114, 97, 110, 115, 104, 105, 112, 47, 116, 114, 97, 110, 115, 104, 105, 112, 108, 97, 119, 49, 49, 46, 67, 116, 120, 65, 100, 100, 115],
  [116, 114, 97, 110, 115, 104, 105, 112, 47, 116, 114, 97, 110, 115, 104, 105, 112, 108, 97, 119, 49, 49, 46, 67, 116, 120, 83, 97, 109, 101],
  [116, 114, 97, 110, 115, 104, 105, 112, 47, 116, 114, 97, 110, 115, 104, 105, 112, 108, 97, 119, 49, 50, 46, 68, 101, 114, 105, 118, 80, 97, 116, 104, 115]]

set_option maxRecDepth 100000 in
theorem cut_words : wordsSigns Try.prog.initOrder.toList = cutWords.map code := by
  have h : Try.prog.initOrder.toList = code (joinN cutWords) := by
    show (String.ofList (code (joinN cutWords))).toList = _
    exact String.toList_ofList
  rw [h]
  exact words_join cutWords (by simp [cutWords]) (by decide +kernel)

theorem cut_behind : behindMainWord (cutWords.map code) = code [99, 117, 116] :: cutWords.tail.tail.tail.map code := by kernel_rfl
theorem cut_lifts : stripLifts liftWords (code [99, 117, 116] :: cutWords.tail.tail.tail.map code) = ([], code [99, 117, 116] :: cutWords.tail.tail.tail.map code) := by kernel_rfl
theorem cut1 : (code [99, 117, 116] == "gc".toList) = false := by kernel_rfl
theorem cut2 : (code [99, 117, 116] == "spec".toList) = false := by kernel_rfl
theorem cut3 : (code [99, 117, 116] == "cut".toList) = true := by kernel_rfl
theorem cut_all : behindMainWord (wordsSigns Try.prog.initOrder.toList) = code [99, 117, 116] :: cutWords.tail.tail.tail.map code := by rw [cut_words, cut_behind]
theorem make_of (P : Program) {c : List Char} {rest : List (List Char)} (h : behindMainWord (wordsSigns P.initOrder.toList) = c :: rest) (h1 : (c == "gc".toList) = false) (h2 : (c == "spec".toList) = false) (h3 : (c == "cut".toList) = true) : P.make = some .cut := by
  unfold Program.make; rw [h]
  simp only [h1, h2, h3, Bool.or_self, Bool.false_eq_true, if_false, Bool.true_or, if_true]
theorem mayEnter_of (P : Program) {c : List Char} {rest : List (List Char)} (h : behindMainWord (wordsSigns P.initOrder.toList) = c :: rest) (h3 : ((stripLifts liftWords (c :: rest)).2.head? == some "cut".toList) = true)
    (h4 : (stripLifts liftWords (c :: rest)).1 = []) (h5 : P.laysLater = false) (h6 : P.bearsReflect = false) (h7 : P.doorFits [] = true) : P.mayEnter = true := by
  unfold Program.mayEnter; rw [h]
  refine Bool.or_eq_true_iff.2 (Or.inr ?_)
  rw [h3, h4, h5, h6, h7]; rfl
theorem row_make : Try.prog.make = some .cut := make_of Try.prog cut_all cut1 cut2 cut3
theorem row_mayEnter : Try.prog.mayEnter = true := mayEnter_of Try.prog cut_all (by rw [cut_lifts]; kernel_rfl) (by rw [cut_lifts]) (by kernel_rfl) (by kernel_rfl) (by kernel_rfl)
theorem row_lifts : Try.prog.liftsFinal = false := by unfold Program.liftsFinal Program.headLifts; rw [cut_all, cut_lifts]; kernel_rfl
end Go.Proofs.Ytjhdcjjoignioaa

/-! CtxForms holds: for every input the call returns true, and the arguments read as before. The walk of the Go text is in the texts that this one imports; no condition. -/
namespace Go.Proofs.Ytjhdcjjoignioaa.lawCtxForms
open Go.ChangeShapes Go.WideShapes Go.ChangeAt Go.RowKit

set_option maxRecDepth 100000 in
theorem lifted (os : Os) (started : os.Started) (H : Type) (enc : TypeId × Value → H) :
    ReturnsInHanded {} Try.checked os 4 .any (Rows.ctxFormsSpec.pre6 enc Try.prog Try.f4 Rows.ctxFormsRow.domain false) (Rows.ctxFormsSpec.post enc Try.prog Try.f4 false true false false) := by
  refine returnsInHanded_of_change (C := Try.checked) own started (by kernel_rfl) Try.func4
    (ChangeSpec.witness6 (enc := enc) (C := Try.checked) false ⟨#[], #[.slice none 0 0], []⟩ 8 (by kernel_rfl) (by kernel_rfl) (by kernel_rfl) (by kernel_rfl)) ?_
  intro W base args ds gs before hval0 hW hcnd _
  have hval : ∀ (j : Nat) t v, Try.f4.params[j]? = some t → args[j]? = some v → Value.okWide Try.prog W .any base t v := hval0
  have hW' := hW
  obtain ⟨p, q, hA0, hV, rfl, hfz, hnd⟩ := hW
  have hA : DataW.TrodAll enc Try.prog W 0 (fun _ => true) true Try.f4.params.toList args.toList ds p := hA0
  rw [Try.params4] at hA hval
  obtain ⟨v0, vs0, d0, ds0, p0, q0, hargs0, rfl, rfl, h0, r0⟩ := trodAll_cons hA
  obtain ⟨rfl, rfl, rfl⟩ := trodAll_nil r0
  obtain rfl : args = #[v0] := by cases args; simp_all
  obtain ⟨rfl, rfl⟩ := trodVars_none hV
  have h0k := h0
  have hlt0 : ∀ x ∈ p0, x.block < W.heap.size := fun x hx => by have := hW'.lt x (by simp [hx]); simpa using this
  obtain ⟨l0, hl0⟩ := open_argE (hval 0 22 v0 rfl rfl) h0
  clear hA0 hval0
  simp only [List.append_nil] at hW'
  refine (ctxForms_any l0 W v0 hl0).mono fun e W' ⟨he, hb⟩ => ?_
  subst he
  exact ⟨_, rfl, _, _, _, [], _, [], hW', trodAll_cons_mk (shut_bool Try.underlying4 _) trodAll_mk0, (trodAll_cons_mk (Below.trod laidOut (by kernel_rfl) (of_decide_eq_true (by kernel_rfl)) h0k hb hlt0) trodAll_mk0), rfl, hb.frame _, fun h => by cases h⟩

theorem closed : joinedFacts Try.prog 4 Try.f4 Rows.ctxFormsSpec Rows.ctxFormsRow = true := by
  unfold joinedFacts
  rw [row_mayEnter, row_lifts, row_make]
  kernel_rfl

theorem proved : Rows.CtxFormsSaid :=
  OpenClaim.holds_of_wide 4 Try.f4 rfl rfl rfl rfl rfl rfl rfl ⟨rfl, rfl, rfl, rfl, rfl⟩ rfl rfl rfl rfl rfl (by kernel_rfl) Try.func4 closed
    (of_decide_eq_true (by kernel_rfl)) (by unfold Func.isWrapper; first | (rw [if_pos (by decide +kernel)]; kernel_rfl) | (rw [if_neg (by decide +kernel)]; exact ⟨rfl, rfl⟩))
    (fun os started H enc _ => lifted os started H enc)
#print axioms proved
end Go.Proofs.Ytjhdcjjoignioaa.lawCtxForms
