/-
  ReadInner holds: for every input the call returns true, and the arguments read as before. No condition.
-/
import Derived.Lib.ItoaNum
import Derived.Lib.ItoaLen
import Derived.Test.YtllkackipdcekaaDoorRows
import Derived.ProofKit
import Derived.WalkKit
import Derived.LoopTactic
import Derived.Lib.Hide
import Derived.Below
import Derived.IntWalk
import Derived.Lib.Strings
import Derived.Laws.Strings2
import Derived.Deep.AppendLies
import Derived.Laws.Rows
import Derived.OwnWalk
import Derived.KernelRfl
import Derived.Deep.RegionHeld3
import Derived.Lib.Builder
import Derived.WalkSmall
import Derived.Maps.GroupsBeside
import Derived.Maps.StringElems
import Derived.Laws.OwnMore
import Derived.Deep.RegionLaw
import Derived.Maps.AppendAt
import Derived.Deep.Cut
import Derived.Deep.DeepCutAuto
import Derived.Maps.OwnOps
import Derived.Maps.OwnSet
import Derived.Lib.MinMax
import Derived.Laws.IdiomCopy
import Derived.Deep.Slices
import Derived.Lib.QuietBelow
import Derived.StillTailTactics
import Derived.BigQuiet
import Derived.Deep.RegionWith
import Derived.OrdersHeld
import Derived.Recover
import Derived.RegionTactic
import Derived.Defers
import Derived.Test.YtllkackipdcekaaDoorShelf
import Derived.Lib.AppendIntMem
import Derived.Lib.LaidTab
import Derived.OpenShut
import Derived.Carry
import Derived.LaidMore
import Derived.LaidSub
import Derived.LaidHandle
import Derived.Stop.Joined
import Derived.JoinedOf
import Derived.Test.YtllkackipdcekaaDoorCards
import Derived.Test.YtllkackipdcekaaDoorTie
import Derived.SevenTiedAt
import Derived.ChangeMaps5
import Derived.Test.YtllkackipdcekaaDoorReadInnerQ2
namespace Go.Proofs.YtllkackipdcekaaDoor
open Go.RowKit Go.Maps Go.ChangeShapes

/-- The state while a list is read: the result's block G, the box b of the term so far. -/
structure LSt (c : RC) (sl : Nat) (N : Names) (w0 : World) (b : Nat) (k i j n : Int) (s : Value) (q : List Tok) (w : World) : Prop where
  st : RSt c sl N q w
  fr : Fr c w0 w
  tab : TabsR c.B w
  zg : w.heap[w0.heap.size]? = some (zeroT)
  bx : w.heap[b]? = some (.cells #[.int .i64 k, .int .i64 i, .int .i64 j, .int .i64 n, s] 26 (0, 0))
theorem LSt.on {c : RC} {sl sl' : Nat} {N : Names} {w0 : World} {b : Nat} {k i j n : Int} {s : Value} {q q' : List Tok} {w w' : World} (h : LSt c sl N w0 b k i j n s q w) (hf : Fr c w w') (hs : RSt c sl' N q' w') : LSt c sl' N w0 b k i j n s q' w' :=
  ⟨hs, h.fr.trans hf, h.tab.keep hf.below, hf.kept _ _ _ _ h.zg (by decide) (by decide) (by decide), hf.kept _ _ _ _ h.bx (by decide) (by decide) (by decide)⟩
theorem LSt.turn {c : RC} {sl : Nat} {N : Names} {w0 : World} {b : Nat} {k i j n k' i' j' n' : Int} {s s' : Value} {q : List Tok} {w w' : World} (h : LSt c sl N w0 b k i j n s q w) (hlo : c.B ≤ w0.heap.size) (hb : w0.heap.size < b) (hg : w.grownBy w' (some b)) (hx : w'.heap[b]? = some (.cells #[.int .i64 k', .int .i64 i', .int .i64 j', .int .i64 n', s'] 26 (0, 0))) : LSt c sl N w0 b k' i' j' n' s' q w' :=
  ⟨h.st.other hg h.bx (by omega), h.fr.other hg (by omega) hlo, h.tab.keep ⟨hg.os, hg.tape, hg.output, hg.size, fun p hp => hg.block p (by have := h.st.lo; omega) (fun e => by have := Option.some.inj e; omega)⟩, by rw [hg.block _ (hlt_of h.zg) (fun e => by have := Option.some.inj e; omega)]; exact h.zg, hx⟩
theorem g1 (w : World) (b i : Nat) (v : Value) : w.grownBy (w.setCell ⟨b, i, none⟩ v) (some b) := grown_at ⟨rfl, rfl, rfl, Nat.le_refl _, fun _ _ _ => rfl⟩ i v
theorem LSt.setN {c : RC} {sl : Nat} {N : Names} {w0 : World} {b : Nat} {k i j n : Int} {s : Value} {q : List Tok} {w : World} (h : LSt c sl N w0 b k i j n s q w) (hlo : c.B ≤ w0.heap.size) (hb : w0.heap.size < b) (m : Int) : LSt c sl N w0 b k i j m s q (w.setCell ⟨b, 3, none⟩ (.int .i64 m)) := h.turn hlo hb (g1 _ _ _ _) (heap_setCell_same _ _ _ _ _ _ h.bx)
theorem LSt.setI {c : RC} {sl : Nat} {N : Names} {w0 : World} {b : Nat} {k i j n : Int} {s : Value} {q : List Tok} {w : World} (h : LSt c sl N w0 b k i j n s q w) (hlo : c.B ≤ w0.heap.size) (hb : w0.heap.size < b) (m : Int) : LSt c sl N w0 b k m j n s q (w.setCell ⟨b, 1, none⟩ (.int .i64 m)) := h.turn hlo hb (g1 _ _ _ _) (heap_setCell_same _ _ _ _ _ _ h.bx)
theorem LSt.setJ {c : RC} {sl : Nat} {N : Names} {w0 : World} {b : Nat} {k i j n : Int} {s : Value} {q : List Tok} {w : World} (h : LSt c sl N w0 b k i j n s q w) (hlo : c.B ≤ w0.heap.size) (hb : w0.heap.size < b) (m : Int) : LSt c sl N w0 b k i m n s q (w.setCell ⟨b, 2, none⟩ (.int .i64 m)) := h.turn hlo hb (g1 _ _ _ _) (heap_setCell_same _ _ _ _ _ _ h.bx)
theorem LSt.setS {c : RC} {sl : Nat} {N : Names} {w0 : World} {b : Nat} {k i j n : Int} {s : Value} {q : List Tok} {w : World} (h : LSt c sl N w0 b k i j n s q w) (hlo : c.B ≤ w0.heap.size) (hb : w0.heap.size < b) (s' : Value) : LSt c sl N w0 b k i j n s' q (w.setCell ⟨b, 4, none⟩ s') := h.turn hlo hb (g1 _ _ _ _) (heap_setCell_same _ _ _ _ _ _ h.bx)
theorem headN_range (x : List UInt8) : 0 ≤ headN x ∧ headN x ≤ 30 := by
  unfold headN
  split
  · omega
  · split
    · rename_i i hi
      have := idxL_lt hi
      simp [headsW] at this
      omega
    · omega
theorem symN_range (x : List UInt8) : 0 ≤ symN x ∧ symN x ≤ 30 := by
  unfold symN
  split
  · rename_i i hi
    have := idxL_lt hi
    simp [symsW] at this
    omega
  · omega
theorem levelsN_range (k : Int) : 0 ≤ levelsN k ∧ levelsN k ≤ 2 := by unfold levelsN; (repeat' split) <;> omega
theorem body1 {lv : List Tok → Except Nat (Int × List Tok)} {tp : Int → Names → List Tok → Except Nat (Tm × List Tok)} {E : Nat} {k : Int} {N : Names} {ts : List Tok} {a : Nat} (h : symP E k ts = .error a) : bodyP lv tp E k N ts = .error a := by unfold bodyP; rw [h]
theorem body2 {lv : List Tok → Except Nat (Int × List Tok)} {tp : Int → Names → List Tok → Except Nat (Tm × List Tok)} {E : Nat} {k n : Int} {N : Names} {ts r1 : List Tok} {a : Nat} (h : symP E k ts = .ok (n, r1)) (h1 : lvaP lv k r1 = .error a) : bodyP lv tp E k N ts = .error a := by unfold bodyP; rw [h]; simp only; rw [h1]
theorem body3 {lv : List Tok → Except Nat (Int × List Tok)} {tp : Int → Names → List Tok → Except Nat (Tm × List Tok)} {E : Nat} {k n i : Int} {N : Names} {ts r1 r2 : List Tok} {a : Nat} (h : symP E k ts = .ok (n, r1)) (h1 : lvaP lv k r1 = .ok (i, r2)) (h2 : lvbP lv k r2 = .error a) : bodyP lv tp E k N ts = .error a := by unfold bodyP; rw [h]; simp only; rw [h1]; simp only; rw [h2]
theorem body4 {lv : List Tok → Except Nat (Int × List Tok)} {tp : Int → Names → List Tok → Except Nat (Tm × List Tok)} {E : Nat} {k n i j : Int} {N : Names} {ts r1 r2 r3 : List Tok} (h : symP E k ts = .ok (n, r1)) (h1 : lvaP lv k r1 = .ok (i, r2)) (h2 : lvbP lv k r2 = .ok (j, r3)) : bodyP lv tp E k N ts = (match kdsP tp E k n N r3 with
    | .error e => .error e
    | .ok (l, r4) => match takeT E 2 r4 with
      | .error e => .error e
      | .ok (_, r5) => .ok (.mk k i j n l, r5)) := by unfold bodyP; rw [h]; simp only; rw [h1]; simp only; rw [h2]; rfl
set_option maxHeartbeats 8000000 in
set_option maxRecDepth 20000 in
theorem rlist_any (c : RC) (f : Nat) (lv : List Tok → Except Nat (Int × List Tok)) (tp : Int → Names → List Tok → Except Nat (Tm × List Tok)) (hlv : LevelC c f lv) (hll : ∀ ts n r, lv ts = .ok (n, r) → r.length < ts.length ∧ n ≤ 1000) (htp : TermC c f tp) (hlen : ∀ s N ts t r, tp s N ts = .ok (t, r) → r.length < ts.length) : ListC c f lv tp := by
  intro so N t r sl w hf ht1 h hT
  obtain ⟨du, hu1, hu2⟩ := under_term
  have hlo := h.lo
  have hB1 := al w (zeroT)
  have HF0 := Lib.hid (Fr.later hB1 hlo)
  have HS0 := Lib.hid (h.later hB1)
  have HT0 := Lib.hid (hT.keep HF0.out.below)
  have HG0 := Lib.hid (show (w.alloc (zeroT)).heap[w.heap.size]? = some (zeroT) from alloc_new _ _)
  have HK := Lib.hid (fun (k n own : Int) (q : List Tok) (sl : Nat) (w : World) (h1 : q.length < f) (h2 : RSt c (sl + 100) N q w) (h3 : TabsR c.B w) => rkids_any c f tp htp hlen k 0 0 n own N q sl w h1 h2 h3)
  have HKJ := Lib.hid (fun (q : List Tok) (sl : Nat) (w : World) (h1 : q.length < f) (h2 : RSt c (sl + 100) N q w) (h3 : TabsR c.B w) => rkidsJ_any c f tp htp hlen N q sl w h1 h2 h3)
  have HKK := Lib.hid (fun (k i j n own : Int) (q : List Tok) (sl : Nat) (w : World) (h1 : q.length < f) (h2 : RSt c (sl + 100) N q w) (h3 : TabsR c.B w) => rkids_any c f tp htp hlen k i j n own N q sl w h1 h2 h3)
  have HLV := Lib.hid hlv
  have HLL := Lib.hid hll
  have HLE := Lib.hid hlen
  have HTK := Lib.hid (show takeT c.E 1 (t :: r) = .ok (t, r) from if_pos ht1)
  obtain ⟨r0, r1, r2, r5, rlt⟩ := h.cells
  clear htp h hT hlen hlv hll hB1 ht1
  go_enter Tryd.func65, Tryd.ntmps65
  go_wp2_with fail
  refine (HS0.out.rtake 1).mono ?_
  intro e w1 hg
  rw [HTK.out] at hg
  obtain ⟨rfl, hs1, hf1⟩ := hg
  have HS1 := Lib.hid hs1
  have HF1 := Lib.hid (HF0.out.trans hf1)
  have HT1 := Lib.hid (HT0.out.keep hf1.below)
  have HG1 := Lib.hid (hf1.kept _ _ _ _ HG0.out (by decide) (by decide) (by decide))
  clear hs1 hf1 r0 r1 r2 r5 rlt HTK
  obtain ⟨r0, r1, r2, r5, rlt⟩ := HS1.out.cells
  go_wp2_with fail
  refine (HS1.out.rtake 3).mono ?_
  intro e w2 hg
  cases hx : takeT c.E 3 r with
  | error a =>
    rw [hx] at hg
    obtain ⟨rfl, hf2⟩ := hg
    unfold faultP
    go_wp2
    unfold listP; rw [hx]
    exact ⟨rfl, rfl, HF1.out.trans hf2⟩
  | ok m =>
  obtain ⟨t2, q⟩ := m
  rw [hx] at hg
  obtain ⟨rfl, hs2, hf2⟩ := hg
  have hbt := al w2 (.cells #[.int .i64 t2.k, .string ⟨t2.s.toArray⟩, .int .i64 t2.at_] 97)
  have HX2 := Lib.hid hx
  have HQ2 := Lib.hid (takeT_len hx)
  have HS2 := Lib.hid (hs2.later hbt)
  have HF2 := Lib.hid ((HF1.out.trans hf2).trans (Fr.later hbt hs2.lo))
  have HT2 := Lib.hid ((HT1.out.keep hf2.below).keep (hbt.mono hs2.lo))
  have HG2 := Lib.hid ((hbt.block _ (hlt_of (hf2.kept _ _ _ _ HG1.out (by decide) (by decide) (by decide)))).trans (hf2.kept _ _ _ _ HG1.out (by decide) (by decide) (by decide)))
  have HW2 := Lib.hid (alloc_new w2 (.cells #[.int .i64 t2.k, .string ⟨t2.s.toArray⟩, .int .i64 t2.at_] 97))
  have hGlt : w.heap.size < w2.heap.size := by have h1 := HF1.out.size; have h2 := hf2.size; have h3 := hlt_of HG1.out; omega
  clear hs2 hf2 hbt hx r0 r1 r2 r5 rlt
  obtain ⟨W, hW⟩ : ∃ W, W = w2.alloc (.cells #[.int .i64 t2.k, .string ⟨t2.s.toArray⟩, .int .i64 t2.at_] 97) := ⟨_, rfl⟩
  have hWs : W.heap.size = w2.heap.size + 1 := by rw [hW]; simp
  rw [← hW] at HS2 HF2 HT2 HG2 HW2
  have d1 : W.cell? ⟨w2.heap.size, 1, none⟩ = some (.string ⟨t2.s.toArray⟩) := by rw [Lib.cell_of_heap HW2.out]; rfl
  have d2 : W.cell? ⟨w2.heap.size, 2, none⟩ = some (.int .i64 t2.at_) := by rw [Lib.cell_of_heap HW2.out]; rfl
  have HWW := Lib.hid hW
  obtain ⟨K, hK⟩ : ∃ K, headN t2.s = K := ⟨_, rfl⟩
  have hKr := headN_range t2.s
  rw [hK] at hKr
  obtain ⟨OW, hOW⟩ : ∃ OW, sortN K = OW := ⟨_, rfl⟩
  have HV := Lib.hid (show listP lv tp c.E so N r = if K = 0 ∨ (OW ≠ 0 ∧ so ≠ 0 ∧ OW ≠ so) then .error t2.at_ else bodyP lv tp c.E K N q by unfold listP; rw [HX2.out]; simp only; rw [hK, hOW])
  have HKE := Lib.hid hK
  have HOE := Lib.hid hOW
  clear hW hK hOW
  go_upto_region 3 with fail
  go_cut [6] (fun s6 wx => s6 = .int .i64 K ∧ wx = W)
  case first =>
    have hW := HWW.out
    subst hW
    go_wp2_with fail
    refine (headed_any c.B t2.s _ HT2.out).mono ?_
    rintro e w3 ⟨rfl, rfl⟩
    go_wp2_with fail
    go_meet
    case rel => exact ⟨by rw [HKE.out], rfl⟩
  case rest =>
  obtain ⟨rfl, hw⟩ := hcut
  subst hw
  go_step
  go_step
  go_cut [7] (fun s7 wx => s7 = .int .i64 OW ∧ wx = wc)
  case first =>
    go_wp2_with fail
    refine (sortOf_any K _).mono ?_
    rintro e w3 ⟨rfl, rfl⟩
    go_wp2_with fail
    go_meet
    case rel => exact ⟨by rw [HOE.out], rfl⟩
  case rest =>
  obtain ⟨rfl, hw⟩ := hcut
  subst hw
  go_step
  go_step
  go_cut [6] (fun s6 wx => s6 = .int .i64 K ∧ wx = wc ∧ Hid (¬ (K = 0 ∨ (OW ≠ 0 ∧ so ≠ 0 ∧ OW ≠ so))))
  case first =>
    by_cases a1 : K = 0
    · have b1 : (K == 0) = true := by simpa using a1
      have HBD := Lib.hid (show K = 0 ∨ (OW ≠ 0 ∧ so ≠ 0 ∧ OW ≠ so) from Or.inl a1)
      clear a1 hKr
      go_wp2_with fail
      refine (fail_any _ _).mono ?_
      rintro e w3 ⟨rfl, rfl⟩
      unfold faultP
      go_wp2
      rw [HV.out, if_pos HBD.out]
      exact ⟨rfl, rfl, HF2.out⟩
    have b1 : (K == 0) = false := by simpa using a1
    have b1' : (K != 0) = true := by simpa using a1
    by_cases a2 : OW = 0
    · have b2 : (OW == 0) = true := by simpa using a2
      have b2' : (OW != 0) = false := by simpa using a2
      have HBD := Lib.hid (show ¬ (K = 0 ∨ (OW ≠ 0 ∧ so ≠ 0 ∧ OW ≠ so)) from fun h => h.elim a1 (fun h => h.1 a2))
      clear a1 a2 hKr
      go_wp2_with fail
      go_meet
      case rel => exact ⟨rfl, rfl, HBD⟩
    have b2 : (OW == 0) = false := by simpa using a2
    have b2' : (OW != 0) = true := by simpa using a2
    by_cases a3 : so = 0
    · have b3 : (so == 0) = true := by simpa using a3
      have b3' : (so != 0) = false := by simpa using a3
      have HBD := Lib.hid (show ¬ (K = 0 ∨ (OW ≠ 0 ∧ so ≠ 0 ∧ OW ≠ so)) from fun h => h.elim a1 (fun h => h.2.1 a3))
      clear a1 a2 a3 hKr
      go_wp2_with fail
      go_meet
      case rel => exact ⟨rfl, rfl, HBD⟩
    have b3 : (so == 0) = false := by simpa using a3
    have b3' : (so != 0) = true := by simpa using a3
    by_cases a4 : OW = so
    · have b4 : (OW == so) = true := by simpa using a4
      have b4' : (OW != so) = false := by simpa using a4
      have HBD := Lib.hid (show ¬ (K = 0 ∨ (OW ≠ 0 ∧ so ≠ 0 ∧ OW ≠ so)) from fun h => h.elim a1 (fun h => h.2.2 a4))
      clear a1 a2 a3 a4 hKr
      go_wp2_with fail
      go_meet
      case rel => exact ⟨rfl, rfl, HBD⟩
    have b4 : (OW == so) = false := by simpa using a4
    have b4' : (OW != so) = true := by simpa using a4
    have HBD := Lib.hid (show K = 0 ∨ (OW ≠ 0 ∧ so ≠ 0 ∧ OW ≠ so) from Or.inr ⟨a2, a3, a4⟩)
    clear a1 a2 a3 a4 hKr
    go_wp2_with fail
    refine (fail_any _ _).mono ?_
    rintro e w3 ⟨rfl, rfl⟩
    unfold faultP
    go_wp2
    rw [HV.out, if_pos HBD.out]
    exact ⟨rfl, rfl, HF2.out⟩
  case rest =>
  obtain ⟨rfl, hw, HBD⟩ := hcut
  subst hw
  have HVB := Lib.hid (show listP lv tp c.E so N r = bodyP lv tp c.E K N q by rw [HV.out, if_neg HBD.out])
  have hb := al wc (boxK K 0 0 0)
  have hbw : w.heap.size < wc.heap.size := by rw [hWs]; omega
  obtain ⟨b, hbE⟩ : ∃ b, wc.heap.size = b := ⟨_, rfl⟩
  have HL1 := Lib.hid (show LSt c (sl + 200) N w b K 0 0 0 (.slice none 0 0) q (wc.alloc (boxK K 0 0 0)) from ⟨(HS2.out.later hb).less (by omega), HF2.out.trans (Fr.later hb HS2.out.lo), HT2.out.keep (hb.mono HS2.out.lo), (hb.block _ (hlt_of HG2.out)).trans HG2.out, by rw [← hbE]; exact alloc_new _ _⟩)
  rw [hbE] at hbw
  clear hb d1 d2
  go_step
  go_step
  go_cut [8] (fun s8 wx => s8 = .pointer (some ⟨b, 0, none⟩) ∧ wx = wc.alloc (boxK K 0 0 0))
  case first =>
    go_wp2_with fail
    go_meet
    case rel => exact ⟨by rw [← hbE, hWs], rfl⟩
  case rest =>
  obtain ⟨rfl, hw⟩ := hcut
  rw [← hw] at HL1
  clear hw
  go_step
  go_step
  go_cut [6] (fun s6 wx => s6 = .int .i64 K ∧ ∃ n q1, Hid (symP c.E K q = .ok (n, q1) ∧ LSt c (sl + 200) N w b K 0 0 n (.slice none 0 0) q1 wx ∧ q1.length ≤ q.length ∧ 0 ≤ n ∧ n ≤ 30))
  case first =>
    by_cases a1 : K = 23
    · have b1 : (K == 23) = true := by simpa using a1
      have HKK := Lib.hid a1
      obtain ⟨r0, r1, r2, r5, rlt⟩ := HL1.out.st.cells
      clear a1
      go_wp2_with fail
      refine (HL1.out.st.rtake 3).mono ?_
      intro e w3 hg
      cases hx : takeT c.E 3 q with
      | error a =>
        rw [hx] at hg
        obtain ⟨rfl, hf⟩ := hg
        unfold faultP
        go_wp2
        rw [HVB.out, body1 (show symP c.E K q = .error a by unfold symP; rw [if_pos HKK.out, hx])]
        exact ⟨rfl, rfl, HL1.out.fr.trans hf⟩
      | ok m =>
      obtain ⟨t3, q1⟩ := m
      rw [hx] at hg
      obtain ⟨rfl, hs3, hf3⟩ := hg
      have hbt := al w3 (.cells #[.int .i64 t3.k, .string ⟨t3.s.toArray⟩, .int .i64 t3.at_] 97)
      have HX3 := Lib.hid hx
      have HL2 := Lib.hid ((HL1.out.on hf3 hs3).on (Fr.later hbt hs3.lo) ((hs3.later hbt).less (sl' := sl + 200) (by omega)))
      have HW3 := Lib.hid (alloc_new w3 (.cells #[.int .i64 t3.k, .string ⟨t3.s.toArray⟩, .int .i64 t3.at_] 97))
      have hblt : b < w3.heap.size := by have h1 := hf3.size; have h2 := hlt_of HL1.out.bx; omega
      clear hs3 hf3 hbt hx r0 r1 r2 r5 rlt
      obtain ⟨m, hm⟩ : ∃ m, symN t3.s = m := ⟨_, rfl⟩
      have hmr := symN_range t3.s
      rw [hm] at hmr
      go_wp2_with fail
      refine (symbol_any c.B t3.s _ HL2.out.tab).mono ?_
      rintro e w4 ⟨rfl, rfl⟩
      rw [hm]
      obtain ⟨W3, hW3⟩ : ∃ W3, W3 = w3.alloc (.cells #[.int .i64 t3.k, .string ⟨t3.s.toArray⟩, .int .i64 t3.at_] 97) := ⟨_, rfl⟩
      rw [← hW3] at HL2 HW3
      rw [← hW3]
      obtain ⟨⟨q0, q1x, q2, q3, q4⟩, ⟨g0, g1x, g2, g3, g4⟩, hGl⟩ := cells5_of HL2.out.bx
      have HL3 := Lib.hid (HL2.out.setN hlo hbw m)
      have x2 : (W3.setCell ⟨b, 3, none⟩ (.int .i64 m)).cell? ⟨w3.heap.size, 2, none⟩ = some (.int .i64 t3.at_) := by
        rw [Lib.cell_of_heap (((g1 W3 b 3 (.int .i64 m)).block _ (hlt_of HW3.out) (fun e => by have := Option.some.inj e; omega)).trans HW3.out)]; rfl
      have HSM := Lib.hid hm
      clear hm hW3
      by_cases a2 : m = 0
      · have b2 : (m == 0) = true := by simpa using a2
        have HM := Lib.hid a2
        clear a2
        go_wp2_with fail
        refine (fail_any _ _).mono ?_
        rintro e w5 ⟨rfl, rfl⟩
        unfold faultP
        go_wp2
        rw [HVB.out, body1 (show symP c.E K q = .error t3.at_ by unfold symP; rw [if_pos HKK.out, HX3.out]; simp only; rw [HSM.out, if_pos HM.out])]
        exact ⟨rfl, rfl, HL3.out.fr⟩
      · have b2 : (m == 0) = false := by simpa using a2
        have HM := Lib.hid a2
        clear a2
        go_wp2_with fail
        go_meet
        case rel => exact ⟨rfl, m, q1, Lib.hid ⟨by unfold symP; rw [if_pos HKK.out, HX3.out]; simp only; rw [HSM.out, if_neg HM.out], HL3.out, by have := takeT_len HX3.out; omega, hmr.1, hmr.2⟩⟩
    · have b1 : (K == 23) = false := by simpa using a1
      have HKK := Lib.hid a1
      clear a1
      go_wp2_with fail
      go_meet
      case rel => exact ⟨rfl, 0, q, Lib.hid ⟨by unfold symP; rw [if_neg HKK.out], HL1.out, Nat.le_refl _, by omega, by omega⟩⟩
  case rest =>
  obtain ⟨rfl, n, q1, HA⟩ := hcut
  obtain ⟨LV, hLV⟩ : ∃ LV, levelsN K = LV := ⟨_, rfl⟩
  have hLr := levelsN_range K
  rw [hLV] at hLr
  have HLE2 := Lib.hid hLV
  clear hLV HL1
  go_step
  go_step
  go_cut [10] (fun s10 wx => s10 = .int .i64 LV ∧ wx = wc)
  case first =>
    go_wp2_with fail
    refine (levelsOf_any K _).mono ?_
    rintro e w3 ⟨rfl, rfl⟩
    go_wp2_with fail
    go_meet
    case rel => exact ⟨by rw [HLE2.out], rfl⟩
  case rest =>
  obtain ⟨rfl, hw⟩ := hcut
  subst hw
  go_step
  go_step
  go_cut [10] (fun s10 wx => s10 = .int .i64 LV ∧ ∃ i q2, Hid (lvaP lv K q1 = .ok (i, q2) ∧ LSt c (sl + 200) N w b K i 0 n (.slice none 0 0) q2 wx ∧ q2.length ≤ q1.length ∧ 0 ≤ i ∧ i ≤ 10000000))
  case first =>
    have HL2 := Lib.hid HA.out.2.1
    obtain ⟨r0, r1, r2, r5, rlt⟩ := HL2.out.st.cells
    by_cases a1 : 0 < LV
    · have HP := Lib.hid (show 0 < levelsN K by rw [HLE2.out]; exact a1)
      go_wp2_with fail
      refine (HLV.out.use q1 (sl + 200) N _ (by have := HA.out.2.2.1; have := HQ2.out; omega) HL2.out.st).mono ?_
      intro e w3 hg
      cases hx : lv q1 with
      | error a =>
        rw [hx] at hg
        obtain ⟨rfl, hf⟩ := hg
        unfold faultP
        go_wp2
        rw [HVB.out, body2 HA.out.1 (show lvaP lv K q1 = .error a by unfold lvaP; rw [if_pos HP.out, hx])]
        exact ⟨rfl, rfl, HL2.out.fr.trans hf⟩
      | ok m =>
      obtain ⟨i, q2⟩ := m
      rw [hx] at hg
      obtain ⟨rfl, hs3, hf3, h0, h1⟩ := hg
      have HL3 := Lib.hid (HL2.out.on hf3 hs3)
      obtain ⟨⟨y0, y1, y2, y3, y4⟩, ⟨g0, g1x, g2, g3, g4⟩, hGl⟩ := cells5_of HL3.out.bx
      have HL4 := Lib.hid (HL3.out.setI hlo hbw i)
      have HX3 := Lib.hid hx
      have HLN := Lib.hid (HLL.out _ _ _ hx).1
      clear hs3 hf3 hx
      go_wp2_with fail
      go_meet
      case rel => exact ⟨rfl, i, q2, Lib.hid ⟨by unfold lvaP; rw [if_pos HP.out, HX3.out], HL4.out, by have := HLN.out; omega, h0, h1⟩⟩
    · have HP := Lib.hid (show levelsN K ≤ 0 by rw [HLE2.out]; omega)
      go_wp2_with fail
      go_meet
      case rel => exact ⟨rfl, 0, q1, Lib.hid ⟨by unfold lvaP; rw [if_neg (by have := HP.out; omega)], HL2.out, Nat.le_refl _, by omega, by omega⟩⟩
  case rest =>
  obtain ⟨rfl, i, q2, HBB⟩ := hcut
  go_step
  go_step
  go_cut [10] (fun s10 wx => s10 = .int .i64 LV ∧ ∃ j q3, Hid (lvbP lv K q2 = .ok (j, q3) ∧ LSt c (sl + 200) N w b K i j n (.slice none 0 0) q3 wx ∧ q3.length ≤ q2.length ∧ 0 ≤ j ∧ j ≤ 10000000))
  case first =>
    have HL2 := Lib.hid HBB.out.2.1
    obtain ⟨r0, r1, r2, r5, rlt⟩ := HL2.out.st.cells
    by_cases a1 : 1 < LV
    · have HP := Lib.hid (show 1 < levelsN K by rw [HLE2.out]; exact a1)
      go_wp2_with fail
      refine (HLV.out.use q2 (sl + 200) N _ (by have := HBB.out.2.2.1; have := HA.out.2.2.1; have := HQ2.out; omega) HL2.out.st).mono ?_
      intro e w3 hg
      cases hx : lv q2 with
      | error a =>
        rw [hx] at hg
        obtain ⟨rfl, hf⟩ := hg
        unfold faultP
        go_wp2
        rw [HVB.out, body3 HA.out.1 HBB.out.1 (show lvbP lv K q2 = .error a by unfold lvbP; rw [if_pos HP.out, hx])]
        exact ⟨rfl, rfl, HL2.out.fr.trans hf⟩
      | ok m =>
      obtain ⟨j, q3⟩ := m
      rw [hx] at hg
      obtain ⟨rfl, hs3, hf3, h0, h1⟩ := hg
      have HL3 := Lib.hid (HL2.out.on hf3 hs3)
      obtain ⟨⟨y0, y1, y2, y3, y4⟩, ⟨g0, g1x, g2, g3, g4⟩, hGl⟩ := cells5_of HL3.out.bx
      have HL4 := Lib.hid (HL3.out.setJ hlo hbw j)
      have HX3 := Lib.hid hx
      have HLN := Lib.hid (HLL.out _ _ _ hx).1
      clear hs3 hf3 hx
      go_wp2_with fail
      go_meet
      case rel => exact ⟨rfl, j, q3, Lib.hid ⟨by unfold lvbP; rw [if_pos HP.out, HX3.out], HL4.out, by have := HLN.out; omega, h0, h1⟩⟩
    · have HP := Lib.hid (show levelsN K ≤ 1 by rw [HLE2.out]; omega)
      go_wp2_with fail
      go_meet
      case rel => exact ⟨rfl, 0, q2, Lib.hid ⟨by unfold lvbP; rw [if_neg (by have := HP.out; omega)], HL2.out, Nat.le_refl _, by omega, by omega⟩⟩
  case rest =>
  obtain ⟨rfl, j, q3, HC⟩ := hcut
  have HVC := Lib.hid (HVB.out.trans (body4 HA.out.1 HBB.out.1 HC.out.1))
  have HQ3 := Lib.hid (show q3.length ≤ q.length by have := HA.out.2.2.1; have := HBB.out.2.2.1; have := HC.out.2.2.1; omega)
  have HNR := Lib.hid (show 0 ≤ n ∧ n ≤ 30 ∧ 0 ≤ i ∧ i ≤ 10000000 ∧ 0 ≤ j ∧ j ≤ 10000000 from ⟨HA.out.2.2.2.1, HA.out.2.2.2.2, HBB.out.2.2.2.1, HBB.out.2.2.2.2, HC.out.2.2.2.1, HC.out.2.2.2.2⟩)
  have HL2 := Lib.hid HC.out.2.1
  clear HA HBB HC
  go_step
  go_step
  go_cut [6] (fun s6 wx => s6 = .int .i64 K ∧ ∃ (l : List Tm) (a : Option Addr) (cap : Nat) (q4 : List Tok), Hid (kdsP tp c.E K n N q3 = .ok (l, q4) ∧ LSt c (sl + 100) N w b K i j n (.slice a l.length cap) q4 wx ∧ LiesP wx (Own (w.heap.size + 1) wx) l (.slice a l.length cap)))
  case first =>
    obtain ⟨r0, r1, r2, r5, rlt⟩ := HL2.out.st.cells
    by_cases a1 : K = 22
    · have b1 : (K == 22) = true := by simpa using a1
      have HP := Lib.hid a1
      clear a1
      go_wp2_with fail
      refine (HKJ.out q3 (sl + 100) _ (by have := HQ3.out; have := HQ2.out; omega) (HL2.out.st.less (by omega)) HL2.out.tab).mono ?_
      intro e w3 hg
      cases hx : kidsJ tp c.E N q3 with
      | error a =>
        rw [hx] at hg
        obtain ⟨rfl, hf⟩ := hg
        unfold faultP
        go_wp2
        rw [HVC.out, show kdsP tp c.E K n N q3 = .error a by unfold kdsP; rw [if_pos HP.out, hx]]
        exact ⟨rfl, rfl, HL2.out.fr.trans hf⟩
      | ok m =>
      obtain ⟨l, q4⟩ := m
      rw [hx] at hg
      obtain ⟨s, rfl, hl, hs3, hf3⟩ := hg
      obtain ⟨a, cap, rfl, -, -⟩ := hl.out
      have HL3 := Lib.hid (HL2.out.on hf3 hs3)
      have hbl := hlt_of HL2.out.bx
      obtain ⟨⟨y0, y1, y2, y3, y4⟩, ⟨g0, g1x, g2, g3, g4⟩, hGl⟩ := cells5_of HL3.out.bx
      have HL4 := Lib.hid (HL3.out.setS hlo hbw (.slice a l.length cap))
      have HLS := Lib.hid ((liesP_grown hl (g1 w3 b 4 (.slice a l.length cap)) hbl).from (B' := w.heap.size + 1) (by omega))
      have HX3 := Lib.hid hx
      clear hs3 hf3 hx hl
      go_wp2_with fail
      go_meet
      case rel => exact ⟨rfl, l, a, cap, q4, Lib.hid ⟨by unfold kdsP; rw [if_pos HP.out, HX3.out], HL4.out, HLS.out⟩⟩
    · have b1 : (K == 22) = false := by simpa using a1
      have HP := Lib.hid a1
      clear a1
      obtain ⟨⟨y0, y1, y2, y3, y4⟩, ⟨g0, g1x, g2, g3, g4⟩, hGl⟩ := cells5_of HL2.out.bx
      go_wp2_with fail
      refine (HKK.out K i j n OW q3 (sl + 100) _ (by have := HQ3.out; have := HQ2.out; omega) (HL2.out.st.less (by omega)) HL2.out.tab).mono ?_
      intro e w3 hg
      cases hx : kidsK tp c.E K n OW N q3 with
      | error a =>
        rw [hx] at hg
        obtain ⟨rfl, hf⟩ := hg
        unfold faultP
        go_wp2
        rw [HVC.out, show kdsP tp c.E K n N q3 = .error a by unfold kdsP; rw [if_neg HP.out, HOE.out, hx]]
        exact ⟨rfl, rfl, HL2.out.fr.trans hf⟩
      | ok m =>
      obtain ⟨l, q4⟩ := m
      rw [hx] at hg
      obtain ⟨s, rfl, hl, hs3, hf3⟩ := hg
      obtain ⟨a, cap, rfl, -, -⟩ := hl.out
      have HL3 := Lib.hid (HL2.out.on hf3 hs3)
      clear y0 y1 y2 y3 y4 g0 g1x g2 g3 g4
      obtain ⟨⟨y0, y1, y2, y3, y4⟩, ⟨g0, g1x, g2, g3, g4⟩, hGl3⟩ := cells5_of HL3.out.bx
      have HL4 := Lib.hid (HL3.out.setS hlo hbw (.slice a l.length cap))
      have HLS := Lib.hid ((liesP_grown hl (g1 w3 b 4 (.slice a l.length cap)) hGl).from (B' := w.heap.size + 1) (by omega))
      have HX3 := Lib.hid hx
      clear hs3 hf3 hx hl
      go_wp2_with fail
      go_meet
      case rel => exact ⟨rfl, l, a, cap, q4, Lib.hid ⟨by unfold kdsP; rw [if_neg HP.out, HOE.out, HX3.out], HL4.out, HLS.out⟩⟩
  case rest =>
  obtain ⟨rfl, l, a, cap, q4, HD⟩ := hcut
  have HL3 := Lib.hid HD.out.2.1
  clear HL2
  obtain ⟨r0, r1, r2, r5, rlt⟩ := HL3.out.st.cells
  go_wp2_with fail
  refine (HL3.out.st.rtake 2).mono ?_
  intro e w3 hg
  cases hx : takeT c.E 2 q4 with
  | error a =>
    rw [hx] at hg
    obtain ⟨rfl, hf⟩ := hg
    unfold faultP
    go_wp2
    rw [HVC.out, HD.out.1]; simp only; rw [hx]
    exact ⟨rfl, rfl, HL3.out.fr.trans hf⟩
  | ok m =>
  obtain ⟨t4, q5⟩ := m
  rw [hx] at hg
  obtain ⟨rfl, hs3, hf3⟩ := hg
  have HL4 := Lib.hid (HL3.out.on hf3 hs3)
  obtain ⟨⟨y0, y1, y2, y3, y4⟩, ⟨g0, g1x, g2, g3, g4⟩, hGl⟩ := cells5_of HL4.out.bx
  obtain ⟨⟨z0, z1, z2, z3, z4⟩, ⟨f0, f1, f2, f3, f4⟩, hZl⟩ := cells5_of HL4.out.zg
  have HZ := Lib.hid HL4.out.zg
  have HE := Lib.hid (term_end (t := .mk K i j n l) (w2 := cell5 w3 w.heap.size 0 (.int .i64 K) (.int .i64 i) (.int .i64 j) (.int .i64 n) (.slice a l.length cap)) hlo HL4.out.fr (cell5_grown _ _ _ _ _ _ _ _) HZ.out (HL4.out.st.less (sl' := sl) (by omega)) (liesP_fr HD.out.2.2 hf3))
  have HX4 := Lib.hid hx
  clear hs3 hf3 hx r0 r1 r2 r5 rlt
  go_wp2
  refine bodyPost_ret (results_cell_row rfl _ _ w.heap.size _ _ _ du rfl (five_set HZ.out) hu1 (by cases du <;> first | rfl | exact hu2) size_term) rfl ?_
  rw [HVC.out, HD.out.1]; simp only; rw [HX4.out]
  refine ⟨.slice a l.length cap, rfl, HE.out.1, ?_, HE.out.2.1, HE.out.2.2⟩
  have := HNR.out
  unfold Tm.fine I64
  simp only [Tm.k, Tm.i, Tm.j, Tm.n]
  omega
end Go.Proofs.YtllkackipdcekaaDoor

namespace Go.Proofs.YtllkackipdcekaaDoor
open Go.RowKit Go.Maps Go.ChangeShapes

theorem rterm_any (c : RC) (hij : (0 ≤ c.i ∧ c.i ≤ 1000) ∧ 0 ≤ c.j ∧ c.j ≤ 1000) : ∀ f, TermC c f (termP c.E c.i c.j f)
  | 0 => fun so N ts sl w hf _ _ => by omega
  | f + 1 => rterm_step c f (rlist_any c f (levelP c.E c.i c.j f) (termP c.E c.i c.j f) (rlevel_any c hij f) (fun ts n r h => ⟨levelP_len h, levelP_most h⟩) (rterm_any c hij f) (fun s N ts t r h => termP_len h))
end Go.Proofs.YtllkackipdcekaaDoor

namespace Go.Proofs.YtllkackipdcekaaDoor
open Go.RowKit Go.Maps Go.ChangeShapes

def toksO (x : List Tok × Option Nat) : List Tok := match x with
  | (ts, none) => ts
  | (_, some _) => []
/-- The tokens of a text, where they end, and whether a fault stands there. -/
def ofL (l : List UInt8) : List Tok × Nat × Bool := match lexL l 0 with
  | (ts, none) => (ts, l.length, false)
  | (_, some p) => (toksO (lexL (l.take p) 0), p, true)
theorem lexL_bound {l : List UInt8} : ∀ (n p : Nat), l.length - p ≤ n → (∀ q, (lexL l p).2 = some q → q < l.length) ∧ (∀ t ∈ (lexL l p).1, t.s.length ≤ l.length ∧ t.at_ < l.length) ∧ (lexL l p).1.length + min p l.length ≤ l.length
  | 0, p, h => by
    rw [lexL_end (by omega)]
    exact ⟨fun q hq => (by cases hq), fun t ht => (by cases ht), by simp; omega⟩
  | n + 1, p, h => by
    by_cases h1 : p + skipL (l.drop p) < l.length
    · cases hn : nextL (l.drop (p + skipL (l.drop p))) with
      | none =>
        rw [lexL_fault rfl h1 hn]
        exact ⟨fun q hq => (by obtain rfl := Option.some.inj hq; exact h1), fun t ht => (by cases ht), by simp; omega⟩
      | some x =>
        obtain ⟨k, m⟩ := x
        have hb := (nextL_range hn).2.1
        have hb1 := (nextL_range hn).1
        rw [lexL_next rfl h1 hn]
        have hr := lexL_bound (l := l) n (p + skipL (l.drop p) + m) (by omega)
        refine ⟨hr.1, fun t ht => ?_, ?_⟩
        · rcases List.mem_cons.1 ht with rfl | ht
          · exact ⟨by simp; omega, h1⟩
          · exact hr.2.1 t ht
        · have := hr.2.2
          simp only [List.length_cons]
          rw [List.length_drop] at hb
          omega
    · rw [lexL_end h1]
      exact ⟨fun q hq => (by cases hq), fun t ht => (by cases ht), by simp; omega⟩
theorem ofL_bound (l : List UInt8) : (ofL l).1.length ≤ l.length ∧ (ofL l).2.1 ≤ l.length ∧ ∀ t ∈ (ofL l).1, t.s.length ≤ l.length ∧ t.at_ ≤ l.length := by
  have h := lexL_bound (l := l) l.length 0 (by omega)
  unfold ofL
  rcases hx : lexL l 0 with ⟨ts, o⟩
  rw [hx] at h
  cases o with
  | none =>
    simp only
    exact ⟨by have := h.2.2; simp at this; omega, Nat.le_refl _, fun t ht => ⟨(h.2.1 t ht).1, Nat.le_of_lt (h.2.1 t ht).2⟩⟩
  | some p =>
    have hp : p < l.length := h.1 p rfl
    have k := lexL_bound (l := l.take p) (l.take p).length 0 (by omega)
    have hl : (l.take p).length = p := by rw [List.length_take]; omega
    rw [hl] at k
    simp only
    rcases hy : lexL (l.take p) 0 with ⟨us, o⟩
    rw [hy] at k
    cases o with
    | none => exact ⟨by show us.length ≤ _; have := k.2.2; simp at this; omega, by omega, fun t ht => by have := k.2.1 t ht; exact ⟨by omega, by omega⟩⟩
    | some q => exact ⟨by show 0 ≤ _; omega, by omega, fun t ht => (by cases ht)⟩
theorem toks_lies {B : Nat} {w : World} {v : Value} {ts : List Tok} (h : Toks 97 B w v ts) : TLies w ts v := by
  obtain ⟨h1, h2⟩ := h
  rcases h2 with ⟨rfl, h0⟩ | ⟨g, cap, cur, rfl, hg, hh, hn, hc, hs, ht⟩
  · have h3 : ts = [] := List.eq_nil_of_length_eq_zero h0
    subst h3
    exact ⟨none, 0, rfl, Nat.le_refl _, by unfold maxLen; omega, Or.inl rfl⟩
  · exact ⟨some ⟨g, 0, none⟩, cap, rfl, hn, hc, Or.inr ⟨g, 0, cur, (0, 0), rfl, hh, by rw [List.drop_zero]; exact ht⟩⟩
def OfG (w : World) (x : List Tok × Nat × Bool) (e : Ending) (w' : World) : Prop := ∃ tv, e = .returned (.pointer (some ⟨w'.heap.size - 1, 0, none⟩)) ∧ w.heap.size < w'.heap.size ∧ SAt w' (w'.heap.size - 1) tv x.2.1 x.2.2 ∧ TLies w' x.1 tv ∧ Below w.heap.size w w'
theorem ofG_of {w w1 : World} {x : List Tok × Nat × Bool} {tv : Value} (hB : Below w.heap.size w w1) (hT : TLies w1 x.1 tv) : OfG w x (.returned (.pointer (some ⟨w1.heap.size, 0, none⟩))) (w1.alloc (.cells #[tv, .int .i64 x.2.1, .bool x.2.2] 94)) := by
  have hb := (Below.refl w1.heap.size w1).alloc (Nat.le_refl _) (.cells #[tv, .int .i64 x.2.1, .bool x.2.2] 94)
  have hs : (w1.alloc (.cells #[tv, .int .i64 x.2.1, .bool x.2.2] 94)).heap.size - 1 = w1.heap.size := by simp
  have := hB.size
  unfold OfG
  rw [hs]
  exact ⟨tv, rfl, by simp; omega, alloc_new _ _, hT.keep fun g cs fz e => by rw [hb.block _ (hlt_of e)]; exact e, hB.trans (hb.mono hB.size)⟩
set_option maxHeartbeats 2000000 in
set_option maxRecDepth 20000 in
theorem of_any (s : ByteArray) (w : World) (hs : s.size ≤ 10000000) : Calls Tryd.prog 41 #[.string s] w (OfG w (ofL s.data.toList)) := by
  have HLX := Lib.hid (fun (s : ByteArray) (w : World) (h : s.size ≤ 10000000) => lex_any s w h)
  have hsl : s.data.toList.length = s.size := by simp
  have HSL := Lib.hid hsl
  clear hsl
  go_enter Tryd.func41, Tryd.ntmps41
  go_wp2_with fail
  refine (HLX.out s w hs).mono ?_
  intro e w1 hg
  cases hl : lexL s.data.toList 0 with
  | mk ts o =>
  rw [hl] at hg
  obtain ⟨hB, hg⟩ := hg
  cases o with
  | none =>
    obtain ⟨v, hT, rfl⟩ := hg
    have HO := Lib.hid (show ofL s.data.toList = (ts, s.size, false) by unfold ofL; rw [hl]; simp only; rw [HSL.out])
    obtain ⟨a, cap, rfl, hv⟩ := toks_lies hT
    have HT := Lib.hid (show TLies w1 ts (.slice a ts.length cap) from ⟨a, cap, rfl, hv⟩)
    have HB := Lib.hid hB
    clear hT hB hl hv
    go_wp2
    go_ret
    rw [HO.out]
    exact ofG_of (x := (ts, s.size, false)) HB.out HT.out
  | some p =>
    obtain rfl := hg
    have hp : p < s.size := by have := (lexL_bound (l := s.data.toList) s.data.toList.length 0 (by omega)).1 p (by rw [hl]); rw [HSL.out] at this; exact this
    obtain ⟨P, hP⟩ : ∃ P, s.extract 0 p = P := ⟨_, rfl⟩
    have hPd : P.data.toList = s.data.toList.take p := by rw [← hP]; exact (Lib.extract_data s 0 p).trans (by simp)
    have hPs : P.size ≤ 10000000 := by
      have h1 : P.data.toList.length = P.size := by simp
      rw [hPd, List.length_take] at h1
      omega
    have hsli : ∀ w', (Instr.slice 9 (.string s) none (some (.int .i64 (p : Int))) none).run Tryd.prog w' = .ok (.string P) w' := fun w' => by
      rw [← hP]; exact run_slice_string_h w' 9 s Tryd.underlying9 .i64 (p : Int) (by omega) (by omega)
    have HO := Lib.hid (show ofL s.data.toList = (toksO (lexL P.data.toList 0), p, true) by unfold ofL; rw [hl, hPd])
    have HB := Lib.hid hB
    clear hB hl hP hPd
    go_wp2_with fail
    refine (HLX.out P w1 hPs).mono ?_
    intro e w2 hg
    cases hl : lexL P.data.toList 0 with
    | mk us o =>
    rw [hl] at hg HO
    obtain ⟨hB2, hg⟩ := hg
    have HB2 := Lib.hid (HB.out.trans (hB2.mono HB.out.size))
    cases o with
    | none =>
      obtain ⟨v, hT, rfl⟩ := hg
      obtain ⟨a, cap, rfl, hv⟩ := toks_lies hT
      have HT := Lib.hid (show TLies w2 us (.slice a us.length cap) from ⟨a, cap, rfl, hv⟩)
      clear hT hB2 hl hv
      go_wp2
      go_ret
      rw [HO.out]
      exact ofG_of (x := (us, p, true)) HB2.out HT.out
    | some q =>
      obtain rfl := hg
      clear hB2 hl
      go_wp2
      go_ret
      rw [HO.out]
      exact ofG_of (x := ([], p, true)) HB2.out ⟨none, 0, rfl, Nat.le_refl _, by unfold maxLen; omega, Or.inl rfl⟩
/-- The end of the reading. -/
def endP (E : Nat) (br : Bool) (ts : List Tok) : Except Nat Unit := if ts = [] ∧ br = false then .ok () else .error (hereT E ts)
def EndG (w : World) (x : Except Nat Unit) (e : Ending) (w' : World) : Prop := w = w' ∧ match x with
  | .error a => e = faultP a
  | .ok _ => e = .returned (.tuple #[])
set_option maxRecDepth 20000 in
theorem end_any (S : Nat) (v : Value) (E : Nat) (br : Bool) (ts : List Tok) (w : World) (hS : SAt w S v E br) (hv : TLies w ts v) : Calls Tryd.prog 44 #[.pointer (some ⟨S, 0, none⟩)] w (EndG w (endP E br ts)) := by
  have HH := Lib.hid (here_any S v E br ts w hS hv)
  have c0 : w.cell? ⟨S, 0, none⟩ = some v := by rw [Lib.cell_of_heap hS]; rfl
  have c2 : w.cell? ⟨S, 2, none⟩ = some (.bool br) := by rw [Lib.cell_of_heap hS]; rfl
  obtain ⟨a, cap, rfl, -, hcp, -⟩ := hv
  clear hS
  by_cases h0 : ts = []
  · cases br with
    | false =>
      have HE := Lib.hid (show endP E false ts = .ok () from if_pos ⟨h0, rfl⟩)
      subst h0
      go_enter Tryd.func44, Tryd.ntmps44
      go_wp2
      go_end0
      rw [HE.out]
      exact ⟨rfl, rfl⟩
    | true =>
      have HE := Lib.hid (show endP E true ts = .error (hereT E ts) from if_neg (fun h => by cases h.2))
      subst h0
      go_enter Tryd.func44, Tryd.ntmps44
      go_wp2_with fail
      refine HH.out.mono ?_
      rintro e w1 ⟨rfl, rfl⟩
      go_wp2_with fail
      refine (fail_any _ _).mono ?_
      rintro e w1 ⟨rfl, rfl⟩
      unfold faultP
      go_wp2
      rw [HE.out]
      exact ⟨rfl, rfl, rfl⟩
  · have HE := Lib.hid (show endP E br ts = .error (hereT E ts) from if_neg (fun h => h0 h.1))
    have hl : 0 < ts.length := List.length_pos_iff.2 h0
    clear h0
    go_enter Tryd.func44, Tryd.ntmps44
    go_wp2_with fail
    refine HH.out.mono ?_
    rintro e w1 ⟨rfl, rfl⟩
    go_wp2_with fail
    refine (fail_any _ _).mono ?_
    rintro e w1 ⟨rfl, rfl⟩
    unfold faultP
    go_wp2
    rw [HE.out]
    exact ⟨rfl, rfl, rfl⟩
end Go.Proofs.YtllkackipdcekaaDoor

namespace Go.Proofs.YtllkackipdcekaaDoor
open Go.RowKit Go.Maps Go.ChangeShapes

theorem below_grown {B b : Nat} {w w' : World} (hB : B ≤ b) (hg : w.grownBy w' (some b)) (hlo : B ≤ w.heap.size) : Below B w w' := ⟨hg.os, hg.tape, hg.output, hg.size, fun k hk => hg.block k (by omega) (fun e => by have := Option.some.inj e; omega)⟩
abbrev W5' (w : World) (B at_ : Nat) : World := (w.setCell ⟨B + 1, 0, none⟩ (.int .i64 2)).setCell ⟨B + 2, 0, none⟩ (.int .i64 at_)
theorem assert_fault (at_ : Nat) (w : World) : (Instr.typeAssert (.iface 71 (.agg #[.int .i64 at_])) 20 71 true).run Tryd.prog w = .ok (.tuple #[.agg #[.int .i64 at_], .bool true]) w := by kernel_rfl
/-- What the closure leaves in the results of a reading that failed. -/
def CatchG (B : Nat) (at_ : Nat) (w w' : World) : Prop := w'.heap[B]? = some (.cells #[.int .i64 0, .int .i64 0, .int .i64 0, .int .i64 0, .slice none 0 0] 26) ∧ w'.heap[B + 1]? = some (.cells #[.int .i64 2] 27) ∧ w'.heap[B + 2]? = some (.cells #[.int .i64 at_] 3) ∧ Below B w w'
set_option maxHeartbeats 2000000 in
set_option maxRecDepth 20000 in
theorem catch_panicking (B : Nat) (at_ : Nat) (w : World) {v0 v1 v2 v3 v4 x y : Value} (hT : w.heap[B]? = some (.cells #[v0, v1, v2, v3, v4] 26 (0, 0))) (hE : w.heap[B + 1]? = some (.cells #[x] 27 (0, 0))) (hA : w.heap[B + 2]? = some (.cells #[y] 3 (0, 0))) :
    CallsD Tryd.prog 42 #[.pointer (some ⟨B, 0, none⟩), .pointer (some ⟨B + 1, 0, none⟩), .pointer (some ⟨B + 2, 0, none⟩)] (.panicking ({ v := .iface 71 (.agg #[.int .i64 at_]), recovered := false } :: [])) w fun e u' w' =>
      e = .returned (.tuple #[]) ∧ u' = .panicking ({ v := .iface 71 (.agg #[.int .i64 at_]), recovered := true } :: []) ∧ CatchG B at_ w w' := by
  refine callsD_of_wpS Tryd.func42 rfl fun c₀ cs hu => ?_
  apply wpS_seq
  apply wpS_region
  simp [wpOpsS, go_sem, recoverD, hu, Tryd.ntmps42, Exit.thenS]
  apply wpS_seq
  apply wpS_region
  simp [wpOpsS, go_sem, Exit.thenS]
  refine wpS_cond (t := true) (by simp [Act.eval, Array.replicate]) ?_
  simp only [if_true]
  refine wpS_of_wp (wp_mono (Q := fun e a' w' => e = Exit.normal ∧ a'.defers = [] ∧ CatchG B at_ w w') ?_ (fun e a' w' h => ?_))
  · have hta := assert_fault at_
    obtain ⟨du, hu1, hu2⟩ := under_term
    have hb := (Below.refl w.heap.size w).alloc (Nat.le_refl _) (.cells #[.int .i64 at_] 71)
    have hT1 := (hb.block _ (hlt_of hT)).trans hT
    have hE1 := (hb.block _ (hlt_of hE)).trans hE
    have hA1 := (hb.block _ (hlt_of hA)).trans hA
    have hF1 : (w.alloc (.cells #[.int .i64 at_] 71)).heap[w.heap.size]? = some (.cells #[.int .i64 at_] 71) := alloc_new _ _
    have hs1 : w.heap.size < (w.alloc (.cells #[.int .i64 at_] 71)).heap.size := by simp
    have hBS : B < w.heap.size ∧ B + 1 < w.heap.size ∧ B + 2 < w.heap.size := ⟨hlt_of hT, hlt_of hE, hlt_of hA⟩
    have HB := Lib.hid (hb.mono (Nat.le_of_lt hBS.1))
    clear hT hE hA hu hb
    change Code.wp _ _ _ { tmps := #[.pointer (some ⟨B, 0, none⟩), .pointer (some ⟨B + 1, 0, none⟩), .pointer (some ⟨B + 2, 0, none⟩), (.iface 71 (.agg #[.int .i64 at_])), undef, undef, (.iface 71 (.agg #[.int .i64 at_])), (.iface 71 (.agg #[.int .i64 at_])), .bool true, undef, undef, undef, undef, undef, undef, undef, undef], defers := [] } w
    go_upto_region 3 with fail
    obtain ⟨W, hW⟩ : ∃ W, W = w.alloc (.cells #[.int .i64 at_] 71) := ⟨_, rfl⟩
    rw [← hW] at hT1 hE1 hA1 hF1 hs1 HB
    rw [← hW]
    clear hW
    have x0 : W.cell? ⟨B, 0, none⟩ = some v0 := by rw [Lib.cell_of_heap hT1]; rfl
    have x1 : W.cell? ⟨B, 1, none⟩ = some v1 := by rw [Lib.cell_of_heap hT1]; rfl
    have x2 : W.cell? ⟨B, 2, none⟩ = some v2 := by rw [Lib.cell_of_heap hT1]; rfl
    have x3 : W.cell? ⟨B, 3, none⟩ = some v3 := by rw [Lib.cell_of_heap hT1]; rfl
    have x4 : W.cell? ⟨B, 4, none⟩ = some v4 := by rw [Lib.cell_of_heap hT1]; rfl
    have x5 : W.cell? ⟨B + 1, 0, none⟩ = some x := by rw [Lib.cell_of_heap hE1]; rfl
    have x6 : W.cell? ⟨B + 2, 0, none⟩ = some y := by rw [Lib.cell_of_heap hA1]; rfl
    have x7 : W.cell? ⟨w.heap.size, 0, none⟩ = some (.int .i64 at_) := by rw [Lib.cell_of_heap hF1]; rfl
    have f0 : W.frozen? ⟨B, 0, none⟩ = false := Lib.frozen_of_heap hT1 0
    have f1 : W.frozen? ⟨B, 1, none⟩ = false := Lib.frozen_of_heap hT1 1
    have f2 : W.frozen? ⟨B, 2, none⟩ = false := Lib.frozen_of_heap hT1 2
    have f3 : W.frozen? ⟨B, 3, none⟩ = false := Lib.frozen_of_heap hT1 3
    have f4 : W.frozen? ⟨B, 4, none⟩ = false := Lib.frozen_of_heap hT1 4
    have f5 : W.frozen? ⟨B + 1, 0, none⟩ = false := Lib.frozen_of_heap hE1 0
    have f6 : W.frozen? ⟨B + 2, 0, none⟩ = false := Lib.frozen_of_heap hA1 0
    have HH := Lib.hid (And.intro hT1 (And.intro hE1 hA1))
    have hne : ¬ B = w.heap.size := by omega
    have hne1 : ¬ B + 1 = w.heap.size := by omega
    have hne2 : ¬ B + 2 = w.heap.size := by omega
    have hWs : w.heap.size < W.heap.size := hs1
    clear hT1 hE1 hA1 hF1
    go_region
    go_step
    refine ⟨rfl, rfl, ?_⟩
    have hc5 := cell5_grown W B 0 (.int .i64 0) (.int .i64 0) (.int .i64 0) (.int .i64 0) (.slice none 0 0)
    have k1 : (cell5 W B 0 (.int .i64 0) (.int .i64 0) (.int .i64 0) (.int .i64 0) (.slice none 0 0)).heap[B]? = some (.cells #[.int .i64 0, .int .i64 0, .int .i64 0, .int .i64 0, .slice none 0 0] 26 (0, 0)) := five_set HH.out.1
    have k2 := (hc5.block (B + 1) (by omega) (fun e => by have := Option.some.inj e; omega)).trans HH.out.2.1
    have k3 := (hc5.block (B + 2) (by omega) (fun e => by have := Option.some.inj e; omega)).trans HH.out.2.2
    have hb5 := below_grown (B := B) (Nat.le_refl _) hc5 (by omega)
    obtain ⟨W5, hW5⟩ : ∃ W5, W5 = cell5 W B 0 (.int .i64 0) (.int .i64 0) (.int .i64 0) (.int .i64 0) (.slice none 0 0) := ⟨_, rfl⟩
    rw [← hW5] at hc5 k1 k2 k3 hb5
    have hs5 := hc5.size
    show CatchG B at_ w ((W5' (cell5 W B 0 (.int .i64 0) (.int .i64 0) (.int .i64 0) (.int .i64 0) (.slice none 0 0)) B at_).drew)
    rw [← hW5]
    have m1 := g1 W5 (B + 1) 0 (.int .i64 2)
    have m2 := g1 (W5.setCell ⟨B + 1, 0, none⟩ (.int .i64 2)) (B + 2) 0 (.int .i64 at_)
    have hs6 : (W5.setCell ⟨B + 1, 0, none⟩ (.int .i64 2)).heap.size = W5.heap.size := by simp
    refine ⟨?_, ?_, ?_, ?_⟩
    · exact ((m2.block B (by omega) (fun e => by have := Option.some.inj e; omega)).trans (m1.block B (by omega) (fun e => by have := Option.some.inj e; omega))).trans k1
    · exact (m2.block (B + 1) (by omega) (fun e => by have := Option.some.inj e; omega)).trans (heap_setCell_same _ _ _ _ _ _ k2)
    · exact heap_setCell_same _ _ _ _ _ _ ((m1.block (B + 2) (by omega) (fun e => by have := Option.some.inj e; omega)).trans k3)
    · exact (((HB.out.trans hb5).trans (below_grown (by omega) m1 (by omega))).trans (below_grown (by omega) m2 (by omega))).drew
  · obtain ⟨rfl, hd, hC⟩ := h
    exact ⟨hd, _, rfl, .tuple #[], results_none rfl _ _ _, rfl, rfl, hC⟩
theorem catch_idle (B : Nat) (w : World) :
    CallsD Tryd.prog 42 #[.pointer (some ⟨B, 0, none⟩), .pointer (some ⟨B + 1, 0, none⟩), .pointer (some ⟨B + 2, 0, none⟩)] .returning w fun e u' w' => e = .returned (.tuple #[]) ∧ u' = .returning ∧ w' = w := by
  refine callsD_of_wpS Tryd.func42 rfl fun c₀ cs hu => ?_
  apply wpS_seq
  apply wpS_region
  simp [wpOpsS, go_sem, recoverD, hu, Tryd.ntmps42, Exit.thenS]
  apply wpS_seq
  apply wpS_region
  simp [wpOpsS, go_sem, Exit.thenS]
  refine wpS_cond (t := false) (by simp [Act.eval, Array.replicate]) ?_
  simp only [Bool.false_eq_true, if_false]
  refine wpS_of_wp (wp_skip ?_)
  cases c₀
  simp_all [bodyPostS, results, Tryd.results42]
end Go.Proofs.YtllkackipdcekaaDoor

namespace Go.Proofs.YtllkackipdcekaaDoor
open Go.RowKit Go.Maps Go.ChangeShapes

def readT (l : List UInt8) (names : Names) (i j : Int) : Except Nat Tm :=
  match termP (ofL l).2.1 i j ((ofL l).1.length + 1) 0 names.reverse (ofL l).1 with
  | .error a => .error a
  | .ok (t, r) => match endP (ofL l).2.1 (ofL l).2.2 r with
    | .error a => .error a
    | .ok _ => .ok t
def WholeG (w : World) (x : Except Nat Tm) (e : Ending) (w' : World) : Prop := Below w.heap.size w w' ∧ match x with
  | .error a => e = .returned (.tuple #[.agg #[.int .i64 0, .int .i64 0, .int .i64 0, .int .i64 0, .slice none 0 0], .int .i64 2, .int .i64 a])
  | .ok t => ∃ s, e = .returned (.tuple #[tv t s, .int .i64 0, .int .i64 0]) ∧ LiesP w' (Own w.heap.size w') t.kids s ∧ t.fine
abbrev zT : Obj := .cells #[.int .i64 0, .int .i64 0, .int .i64 0, .int .i64 0, .slice none 0 0] 26
abbrev zE : Obj := .cells #[.int .i64 0] 27
abbrev zA : Obj := .cells #[.int .i64 0] 3
theorem three_new (w : World) : ((((w.alloc zT).alloc zE).alloc zA).heap.size = w.heap.size + 3) ∧ (((w.alloc zT).alloc zE).alloc zA).heap[w.heap.size]? = some zT ∧ (((w.alloc zT).alloc zE).alloc zA).heap[w.heap.size + 1]? = some zE ∧ (((w.alloc zT).alloc zE).alloc zA).heap[w.heap.size + 2]? = some zA ∧ Below w.heap.size w (((w.alloc zT).alloc zE).alloc zA) := by
  have b1 := al w zT
  have b2 := al (w.alloc zT) zE
  have b3 := al ((w.alloc zT).alloc zE) zA
  have s1 : (w.alloc zT).heap.size = w.heap.size + 1 := by simp
  have s2 : ((w.alloc zT).alloc zE).heap.size = w.heap.size + 2 := by simp
  have e1 : (w.alloc zT).heap[w.heap.size]? = some zT := alloc_new _ _
  have e2 : ((w.alloc zT).alloc zE).heap[w.heap.size + 1]? = some zE := by have := alloc_new (w.alloc zT) zE; rw [s1] at this; exact this
  have e3 : (((w.alloc zT).alloc zE).alloc zA).heap[w.heap.size + 2]? = some zA := by have := alloc_new ((w.alloc zT).alloc zE) zA; rw [s2] at this; exact this
  exact ⟨by simp, (b3.block _ (by omega)).trans ((b2.block _ (by omega)).trans e1), (b3.block _ (by omega)).trans e2, e3, (b1.trans (b2.mono (by omega))).trans (b3.mono (by omega))⟩
theorem make_inner (w : World) : (Instr.makeMap 66 none).run Tryd.prog w = .ok (.map (some w.heap.size)) (w.alloc (.map #[] 0)) := by kernel_rfl
theorem rd_start {l : List UInt8} {w w1 : World} {S : Nat} {i j : Int} {names : Names} {a : Option Addr} {cap : Nat} {v : Value} (hS : w1.heap.size = S + 1) (hB : w.heap.size + 3 ≤ S) (h1 : SAt w1 S v (ofL l).2.1 (ofL l).2.2) (h2 : TLies w1 (ofL l).1 v) (ho : TxLies (w.heap.size + 3) w1 names (.slice a names.length cap)) (hl : l.length ≤ 10000000) (hm : names.length ≤ 10000000) (hsh : ∀ y ∈ names, y.length ≤ 10000000) :
    RSt (RC.mk (w.heap.size + 3) S (w1.heap.size + 1) w1.heap.size (ofL l).2.1 (ofL l).2.2 i j names (.slice a names.length cap) (100 * (ofL l).1.length)) 0 names.reverse (ofL l).1 ((w1.alloc (.map #[] 0)).alloc (.cells #[.pointer (some ⟨S, 0, none⟩), .int .i64 i, .int .i64 j, .slice a names.length cap, .map (some w1.heap.size), .int .i64 names.length, .map none, .int .i64 0] 69)) ∧ Below w1.heap.size w1 ((w1.alloc (.map #[] 0)).alloc (.cells #[.pointer (some ⟨S, 0, none⟩), .int .i64 i, .int .i64 j, .slice a names.length cap, .map (some w1.heap.size), .int .i64 names.length, .map none, .int .i64 0] 69)) := by
  have hbd := ofL_bound l
  have b1 := al w1 (.map #[] 0)
  have b2 := al (w1.alloc (.map #[] 0)) (.cells #[.pointer (some ⟨S, 0, none⟩), .int .i64 i, .int .i64 j, .slice a names.length cap, .map (some w1.heap.size), .int .i64 names.length, .map none, .int .i64 0] 69)
  have s1 : (w1.alloc (.map #[] 0)).heap.size = w1.heap.size + 1 := by simp
  have bb := b1.trans (b2.mono (by omega))
  have g0 := World.ownsGroups_made (H := Unit) w1 Tryd.prog 9 3 .i64
  have hbs := bb.size
  have q1 := alloc_new (w1.alloc (.map #[] 0)) (.cells #[.pointer (some ⟨S, 0, none⟩), .int .i64 i, .int .i64 j, .slice a names.length cap, .map (some w1.heap.size), .int .i64 names.length, .map none, .int .i64 0] 69)
  rw [s1] at q1
  have q2 := groups_same g0 (b2.block _ (by omega)) (fun g cs fz e => by rw [b2.block _ (hlt_of e)]; exact e)
  have q3 := (bb.block S (by omega)).trans h1
  have q4 : TLies ((w1.alloc (.map #[] 0)).alloc (.cells #[.pointer (some ⟨S, 0, none⟩), .int .i64 i, .int .i64 j, .slice a names.length cap, .map (some w1.heap.size), .int .i64 names.length, .map none, .int .i64 0] 69)) (ofL l).1 v := h2.keep fun g cs fz e => by rw [bb.block _ (hlt_of e)]; exact e
  have q5 := ho.keep (bb.mono (by omega))
  have q6 : ∀ t ∈ (ofL l).1, t.s.length ≤ 10000000 := fun t ht => by have := (hbd.2.2 t ht).1; omega
  have q7 : (ofL l).1.length ≤ 10000000 := by omega
  have q8 : names.reverse.length = names.length := List.length_reverse
  obtain ⟨W, hW⟩ : ∃ W, W = (w1.alloc (.map #[] 0)).alloc (.cells #[.pointer (some ⟨S, 0, none⟩), .int .i64 i, .int .i64 j, .slice a names.length cap, .map (some w1.heap.size), .int .i64 names.length, .map none, .int .i64 0] 69) := ⟨_, rfl⟩
  rw [← hW] at hbs bb q1 q2 q3 q4 q5
  rw [← hW]
  clear hW b2 hbd
  obtain ⟨ts, hts⟩ : ∃ ts, (ofL l).1 = ts := ⟨_, rfl⟩
  rw [hts] at q4 q6 q7
  rw [hts]
  refine ⟨?_, bb⟩
  refine { bS := hB, bR := ?_, bM := ?_, lo := ?_, kk := ?_, str := ⟨v, q3, q4⟩, tok := q6, rdr := ?_, outs := q5, many := ?_, short := hsh }
  · dsimp only; omega
  · dsimp only; omega
  · dsimp only; omega
  · dsimp only; omega
  · refine ⟨0, 0, .map none, .map [], [], ?_, ?_, Or.inl rfl, q2, rfl, ⟨⟨[], rfl⟩, fun x => Or.inl ⟨rfl, rfl⟩⟩⟩
    · unfold RAt
      rw [q8]
      exact q1
    · dsimp only; omega
  · show names.reverse.length + 100 * ts.length + 0 ≤ 100000000000
    omega
theorem liesP_setR {w : World} {B g i : Nat} {l : List Tm} {s v : Value} (h : LiesP w (Own B w) l s) (hB : g < B) : LiesP (w.setCell ⟨g, i, none⟩ v) (Own B (w.setCell ⟨g, i, none⟩ v)) l s := by
  have k := g1 w g i v
  revert k
  generalize w.setCell ⟨g, i, none⟩ v = w'
  intro k
  exact liesP_grown h k hB
def finV (w : World) (n : Nat) (v0 v1 v2 v3 v4 : Value) : World := ((cell5 w n 0 v0 v1 v2 v3 v4).setCell ⟨n + 1, 0, none⟩ (.int .i64 0)).setCell ⟨n + 2, 0, none⟩ (.int .i64 0)
set_option maxHeartbeats 4000000 in
theorem whole_fin {w2 : World} {n B' : Nat} {v0 v1 v2 v3 v4 z0 z1 z2 z3 z4 x y s : Value} {l : List Tm} (hz : w2.heap[n]? = some (.cells #[z0, z1, z2, z3, z4] 26 (0, 0))) (h1 : w2.heap[n + 1]? = some (.cells #[x] 27 (0, 0))) (h2 : w2.heap[n + 2]? = some (.cells #[y] 3 (0, 0))) (hl : LiesP w2 (Own B' w2) l s) (hB : n + 2 < B') :
    (finV (cell5 w2 n 0 v0 v1 v2 v3 v4) n v0 v1 v2 v3 v4).heap[n]? = some (.cells #[v0, v1, v2, v3, v4] 26 (0, 0)) ∧ (finV (cell5 w2 n 0 v0 v1 v2 v3 v4) n v0 v1 v2 v3 v4).heap[n + 1]? = some (.cells #[.int .i64 0] 27 (0, 0)) ∧ (finV (cell5 w2 n 0 v0 v1 v2 v3 v4) n v0 v1 v2 v3 v4).heap[n + 2]? = some (.cells #[.int .i64 0] 3 (0, 0)) ∧ LiesP (finV (cell5 w2 n 0 v0 v1 v2 v3 v4) n v0 v1 v2 v3 v4) (Own B' (finV (cell5 w2 n 0 v0 v1 v2 v3 v4) n v0 v1 v2 v3 v4)) l s ∧ Below n w2 (finV (cell5 w2 n 0 v0 v1 v2 v3 v4) n v0 v1 v2 v3 v4) := by
  have hn := hlt_of h2
  have c1 := cell5_grown w2 n 0 v0 v1 v2 v3 v4
  have c2 := cell5_grown (cell5 w2 n 0 v0 v1 v2 v3 v4) n 0 v0 v1 v2 v3 v4
  have k1 : (cell5 w2 n 0 v0 v1 v2 v3 v4).heap[n]? = some (.cells #[v0, v1, v2, v3, v4] 26 (0, 0)) := five_set hz
  have k2 : (cell5 (cell5 w2 n 0 v0 v1 v2 v3 v4) n 0 v0 v1 v2 v3 v4).heap[n]? = some (.cells #[v0, v1, v2, v3, v4] 26 (0, 0)) := five_set k1
  have l2 := liesP_grown (liesP_grown hl c1 (by omega)) c2 (by omega)
  have cc := c1.trans c2
  have e1 := (cc.block (n + 1) (by omega) (fun e => by have := Option.some.inj e; omega)).trans h1
  have e2 := (cc.block (n + 2) (by omega) (fun e => by have := Option.some.inj e; omega)).trans h2
  have hb := below_grown (B := n) (Nat.le_refl _) cc (by omega)
  have hs := cc.size
  obtain ⟨W, hW⟩ : ∃ W, W = cell5 (cell5 w2 n 0 v0 v1 v2 v3 v4) n 0 v0 v1 v2 v3 v4 := ⟨_, rfl⟩
  rw [← hW] at k2 l2 e1 e2 hb hs
  unfold finV
  rw [← hW]
  have m1 := g1 W (n + 1) 0 (.int .i64 0)
  have m2 := g1 (W.setCell ⟨n + 1, 0, none⟩ (.int .i64 0)) (n + 2) 0 (.int .i64 0)
  have hs6 : (W.setCell ⟨n + 1, 0, none⟩ (.int .i64 0)).heap.size = W.heap.size := by simp
  refine ⟨?_, ?_, ?_, liesP_setR (liesP_setR l2 (by omega)) hB, ?_⟩
  · exact ((m2.block n (by omega) (fun e => by have := Option.some.inj e; omega)).trans (m1.block n (by omega) (fun e => by have := Option.some.inj e; omega))).trans k2
  · exact (m2.block (n + 1) (by omega) (fun e => by have := Option.some.inj e; omega)).trans (heap_setCell_same _ _ _ _ _ _ e1)
  · exact heap_setCell_same _ _ _ _ _ _ ((m1.block (n + 2) (by omega) (fun e => by have := Option.some.inj e; omega)).trans e2)
  · exact (hb.trans (below_grown (by omega) m1 (by omega))).trans (below_grown (by omega) m2 (by omega))
set_option maxRecDepth 20000 in
theorem read_results (tmps : Array Value) (w : World) (n : Nat) (v0 v1 v2 v3 v4 u1 u2 : Value) (h8 : tmps.getD 8 undef = .pointer (some ⟨n, 0, none⟩)) (h9 : tmps.getD 9 undef = .pointer (some ⟨n + 1, 0, none⟩)) (h10 : tmps.getD 10 undef = .pointer (some ⟨n + 2, 0, none⟩)) (k0 : w.heap[n]? = some (.cells #[v0, v1, v2, v3, v4] 26 (0, 0))) (k1 : w.heap[n + 1]? = some (.cells #[u1] 27 (0, 0))) (k2 : w.heap[n + 2]? = some (.cells #[u2] 3 (0, 0))) :
    (results Tryd.f26 tmps).run Tryd.prog w = .ok (.tuple #[.agg #[v0, v1, v2, v3, v4], u1, u2]) w := by
  have h8' : tmps[8]?.getD undef = .pointer (some ⟨n, 0, none⟩) := by simpa using h8
  have h9' : tmps[9]?.getD undef = .pointer (some ⟨n + 1, 0, none⟩) := by simpa using h9
  have h10' : tmps[10]?.getD undef = .pointer (some ⟨n + 2, 0, none⟩) := by simpa using h10
  have y0 : w.cell? ⟨n, 0, none⟩ = some v0 := by rw [Lib.cell_of_heap k0]; rfl
  have y1 : w.cell? ⟨n, 1, none⟩ = some v1 := by rw [Lib.cell_of_heap k0]; rfl
  have y2 : w.cell? ⟨n, 2, none⟩ = some v2 := by rw [Lib.cell_of_heap k0]; rfl
  have y3 : w.cell? ⟨n, 3, none⟩ = some v3 := by rw [Lib.cell_of_heap k0]; rfl
  have y4 : w.cell? ⟨n, 4, none⟩ = some v4 := by rw [Lib.cell_of_heap k0]; rfl
  have x1 : w.cell? ⟨n + 1, 0, none⟩ = some u1 := by rw [Lib.cell_of_heap k1]; rfl
  have x2 : w.cell? ⟨n + 2, 0, none⟩ = some u2 := by rw [Lib.cell_of_heap k2]; rfl
  simp [results, Tryd.results26, h8', h9', h10', asAddr, y0, y1, y2, y3, y4, x1, x2, go_sem]
end Go.Proofs.YtllkackipdcekaaDoor

namespace Go.Proofs.YtllkackipdcekaaDoor
open Go.RowKit Go.Maps Go.ChangeShapes

set_option maxHeartbeats 1600000 in
set_option maxRecDepth 20000 in
theorem whole_any (s : ByteArray) (names : Names) (a : Option Addr) (cap : Nat) (i j : Int) (hij : (0 ≤ i ∧ i ≤ 1000) ∧ 0 ≤ j ∧ j ≤ 1000) (w : World) (hs : s.size ≤ 10000000) (hT : TabsR w.heap.size w) (hN : TxLies w.heap.size w names (.slice a names.length cap)) (hm : names.length ≤ 10000000) (hsh : ∀ y ∈ names, y.length ≤ 10000000) :
    Calls Tryd.prog 26 #[.string s, .slice a names.length cap, .int .i64 i, .int .i64 j] w (WholeG w (readT s.data.toList names i j)) := by
  have hmf : ∀ (fn : Fn) (first cap : Array Value) (w : World), (Instr.makeFunc fn first cap).run Tryd.prog w = .ok (.func fn first cap) w := fun _ _ _ _ => rfl
  have hmk := make_inner
  have HN := Lib.hid hN
  have HT := Lib.hid hT
  have HSH := Lib.hid hsh
  have HIJ := Lib.hid hij
  have H3 := Lib.hid (three_new w)
  have hsl : s.data.toList.length = s.size := by simp
  have HSL := Lib.hid hsl
  clear hN hT hsh hij hsl
  go_enter_defers Tryd.func26, Tryd.ntmps26
  go_upto_region 1 with fail
  obtain ⟨w3, hw3⟩ : ∃ w3, w3 = ((w.alloc zT).alloc zE).alloc zA := ⟨_, rfl⟩
  rw [← hw3]
  have HC := Lib.hid H3.out
  rw [← hw3] at HC
  have h3s : w.heap.size + 3 = w3.heap.size := HC.out.1.symm
  clear hw3 H3
  go_wp2_with fail
  refine (of_any s w3 hs).mono ?_
  intro e w1 hg
  obtain ⟨v, rfl, hlt, hSA, hTL, hB1⟩ := hg
  obtain ⟨S, hS⟩ : ∃ S, w1.heap.size - 1 = S := ⟨_, rfl⟩
  rw [hS] at hSA
  rw [hS]
  have hS1 : w1.heap.size = S + 1 := by omega
  have hSB : w.heap.size + 3 ≤ S := by omega
  have hN1 := (HN.out.keep HC.out.2.2.2.2).keep (hB1.mono (by omega))
  have hN3 : TxLies (w.heap.size + 3) w1 names (.slice a names.length cap) := by
    obtain ⟨a', c', e1, e2, e3, e4⟩ := hN1
    exact ⟨a', c', e1, e2, e3, fun q hq => by obtain ⟨g, o, h1, h2, h3⟩ := e4 q hq; exact ⟨g, o, h1, by omega, h3⟩⟩
  have hst := rd_start (l := s.data.toList) (i := i) (j := j) hS1 hSB hSA hTL hN3 (by rw [HSL.out]; exact hs) hm HSH.out
  have HR := Lib.hid hst.1
  have HB := Lib.hid ((HC.out.2.2.2.2.trans (hB1.mono (by omega))).trans (hst.2.mono (by omega)))
  have HB3 := Lib.hid (hB1.trans (hst.2.mono (by omega)))
  have hw1 : w.heap.size + 4 ≤ w1.heap.size := by omega
  have HS := Lib.hid hS1
  have HBD := Lib.hid (ofL_bound s.data.toList)
  clear hSA hTL hB1 hN1 hN3 hst hS hS1 hlt
  go_upto_region 2 with fail
  obtain ⟨W, hW⟩ : ∃ W, W = (w1.alloc (.map #[] 0)).alloc (.cells #[.pointer (some ⟨S, 0, none⟩), .int .i64 i, .int .i64 j, .slice a names.length cap, .map (some w1.heap.size), .int .i64 names.length, .map none, .int .i64 0] 69) := ⟨_, rfl⟩
  rw [← hW]
  rw [← hW] at HR HB HB3
  have hWs : W.heap.size = w1.heap.size + 2 := by rw [hW]; simp
  have HWS := Lib.hid hWs
  have HT1 := Lib.hid (show TabsR (w.heap.size + 3) W from ⟨by have := HT.out.lo; omega, (HT.out.keep HB.out).heads, (HT.out.keep HB.out).syms⟩)
  have HTM := Lib.hid (rterm_any (RC.mk (w.heap.size + 3) S (w1.heap.size + 1) w1.heap.size (ofL s.data.toList).2.1 (ofL s.data.toList).2.2 i j names (.slice a names.length cap) (100 * (ofL s.data.toList).1.length)) HIJ.out ((ofL s.data.toList).1.length + 1) 0 names.reverse (ofL s.data.toList).1 0 W (by omega) HR.out HT1.out)
  have z0 := (HB3.out.block w.heap.size (by omega)).trans HC.out.2.1
  have z1 := (HB3.out.block (w.heap.size + 1) (by omega)).trans HC.out.2.2.1
  have z2 := (HB3.out.block (w.heap.size + 2) (by omega)).trans HC.out.2.2.2.1
  have HZ := Lib.hid (And.intro z0 (And.intro z1 z2))
  clear hW z0 z1 z2 hWs
  go_wp2_with fail
  refine HTM.out.mono ?_
  intro e w2 hg
  cases hx : termP (ofL s.data.toList).2.1 i j ((ofL s.data.toList).1.length + 1) 0 names.reverse (ofL s.data.toList).1 with
  | error at_ =>
    rw [show termP (RC.E (RC.mk (w.heap.size + 3) S (w1.heap.size + 1) w1.heap.size (ofL s.data.toList).2.1 (ofL s.data.toList).2.2 i j names (.slice a names.length cap) (100 * (ofL s.data.toList).1.length))) (RC.i (RC.mk (w.heap.size + 3) S (w1.heap.size + 1) w1.heap.size (ofL s.data.toList).2.1 (ofL s.data.toList).2.2 i j names (.slice a names.length cap) (100 * (ofL s.data.toList).1.length))) (RC.j (RC.mk (w.heap.size + 3) S (w1.heap.size + 1) w1.heap.size (ofL s.data.toList).2.1 (ofL s.data.toList).2.2 i j names (.slice a names.length cap) (100 * (ofL s.data.toList).1.length))) ((ofL s.data.toList).1.length + 1) 0 names.reverse (ofL s.data.toList).1 = .error at_ from hx] at hg
    obtain ⟨rfl, hf⟩ := hg
    have HX := Lib.hid (show readT s.data.toList names i j = .error at_ by unfold readT; rw [hx])
    have hfb : Below (w.heap.size + 3) W w2 := hf.below
    have HZ2 := Lib.hid (And.intro ((hfb.block _ (by omega)).trans HZ.out.1) (And.intro ((hfb.block _ (by omega)).trans HZ.out.2.1) ((hfb.block _ (by omega)).trans HZ.out.2.2)))
    have HB2 := Lib.hid (HB.out.trans (hfb.mono (by omega)))
    clear hx hf hfb
    unfold faultP
    go_wp2
    refine leaves_cons (f := 42) (args := #[.pointer (some ⟨w.heap.size, 0, none⟩), .pointer (some ⟨w.heap.size + 1, 0, none⟩), .pointer (some ⟨w.heap.size + 2, 0, none⟩)]) (by simp) (by simp [go_sem]) ?_
    refine (catch_panicking w.heap.size at_ w2 HZ2.out.1 HZ2.out.2.1 HZ2.out.2.2).mono ?_
    rintro e u' w'' ⟨rfl, rfl, hC⟩
    show ∃ v, (results _ _).run _ _ = .ok v _ ∧ _
    refine ⟨_, read_results _ w'' w.heap.size _ _ _ _ _ _ _ rfl rfl rfl hC.1 hC.2.1 hC.2.2.1, ?_⟩
    rw [HX.out]
    exact ⟨HB2.out.trans hC.2.2.2, rfl⟩
  | ok m =>
    obtain ⟨t, r⟩ := m
    rw [show termP (RC.E (RC.mk (w.heap.size + 3) S (w1.heap.size + 1) w1.heap.size (ofL s.data.toList).2.1 (ofL s.data.toList).2.2 i j names (.slice a names.length cap) (100 * (ofL s.data.toList).1.length))) (RC.i (RC.mk (w.heap.size + 3) S (w1.heap.size + 1) w1.heap.size (ofL s.data.toList).2.1 (ofL s.data.toList).2.2 i j names (.slice a names.length cap) (100 * (ofL s.data.toList).1.length))) (RC.j (RC.mk (w.heap.size + 3) S (w1.heap.size + 1) w1.heap.size (ofL s.data.toList).2.1 (ofL s.data.toList).2.2 i j names (.slice a names.length cap) (100 * (ofL s.data.toList).1.length))) ((ofL s.data.toList).1.length + 1) 0 names.reverse (ofL s.data.toList).1 = .ok (t, r) from hx] at hg
    obtain ⟨sv, rfl, hl, hfi, hs2, hf⟩ := hg
    obtain ⟨au, cu, rfl, -, -⟩ := hl.out
    have hfb : Below (w.heap.size + 3) W w2 := hf.below
    have HZ2 := Lib.hid (And.intro ((hfb.block _ (by omega)).trans HZ.out.1) (And.intro ((hfb.block _ (by omega)).trans HZ.out.2.1) ((hfb.block _ (by omega)).trans HZ.out.2.2)))
    have HB2 := Lib.hid (HB.out.trans (hfb.mono (by omega)))
    have rr : w2.cell? ⟨w1.heap.size + 1, 0, none⟩ = some (.pointer (some ⟨S, 0, none⟩)) := hs2.cells.1
    have rlt : w1.heap.size + 1 < w2.heap.size := hs2.cells.2.2.2.2
    obtain ⟨tv2, hSA2, hTL2⟩ := hs2.str
    have c5 := cell5_grown w2 w.heap.size 0 (.int .i64 t.k) (.int .i64 t.i) (.int .i64 t.j) (.int .i64 t.n) (.slice au t.kids.length cu)
    have k0 : (cell5 w2 w.heap.size 0 (.int .i64 t.k) (.int .i64 t.i) (.int .i64 t.j) (.int .i64 t.n) (.slice au t.kids.length cu)).heap[w.heap.size]? = some (.cells #[.int .i64 t.k, .int .i64 t.i, .int .i64 t.j, .int .i64 t.n, .slice au t.kids.length cu] 26 (0, 0)) := five_set HZ2.out.1
    have k1 := (c5.block (w.heap.size + 1) (by omega) (fun e => by have := Option.some.inj e; omega)).trans HZ2.out.2.1
    have k2 := (c5.block (w.heap.size + 2) (by omega) (fun e => by have := Option.some.inj e; omega)).trans HZ2.out.2.2
    have hSA3 : SAt (cell5 w2 w.heap.size 0 (.int .i64 t.k) (.int .i64 t.i) (.int .i64 t.j) (.int .i64 t.n) (.slice au t.kids.length cu)) S tv2 (ofL s.data.toList).2.1 (ofL s.data.toList).2.2 := (c5.block S (hlt_of hSA2) (fun e => by have := Option.some.inj e; omega)).trans hSA2
    have hTL3 : TLies (cell5 w2 w.heap.size 0 (.int .i64 t.k) (.int .i64 t.i) (.int .i64 t.j) (.int .i64 t.n) (.slice au t.kids.length cu)) r tv2 := hTL2.keep fun g cs fz e => by
      rw [c5.block g (hlt_of e) (fun e2 => by
        have e3 := Option.some.inj e2
        rw [e3] at e
        exact (by decide : (97 : TypeId) ≠ 26) (type_one e HZ2.out.1))]
      exact e
    have HEND := Lib.hid (end_any S tv2 (ofL s.data.toList).2.1 (ofL s.data.toList).2.2 r _ hSA3 hTL3)
    have HKK := Lib.hid (And.intro k0 (And.intro k1 k2))
    have HB5 := Lib.hid (HB2.out.trans (below_grown (Nat.le_refl _) c5 (by omega)))
    have HFIN := Lib.hid (whole_fin (B' := W.heap.size) (v0 := .int .i64 t.k) (v1 := .int .i64 t.i) (v2 := .int .i64 t.j) (v3 := .int .i64 t.n) (v4 := .slice au t.kids.length cu) HZ2.out.1 HZ2.out.2.1 HZ2.out.2.2 hl (by have := HWS.out; omega))
    have HFI := Lib.hid hfi
    have HX1 := Lib.hid hx
    obtain ⟨⟨q0, q1, q2, q3, q4⟩, ⟨g0, g1x, g2, g3, g4⟩, hGl⟩ := cells5_of HZ2.out.1
    have p1 : w2.cell? ⟨w.heap.size + 1, 0, none⟩ = some (.int .i64 0) := by rw [Lib.cell_of_heap HZ2.out.2.1]; rfl
    have p2 : w2.cell? ⟨w.heap.size + 2, 0, none⟩ = some (.int .i64 0) := by rw [Lib.cell_of_heap HZ2.out.2.2]; rfl
    have p3 : w2.frozen? ⟨w.heap.size + 1, 0, none⟩ = false := Lib.frozen_of_heap HZ2.out.2.1 0
    have p4 : w2.frozen? ⟨w.heap.size + 2, 0, none⟩ = false := Lib.frozen_of_heap HZ2.out.2.2 0
    have hne : ¬ w1.heap.size + 1 = w.heap.size := by omega
    clear hl hfi hs2 hf hfb hSA2 hTL2 c5 k0 k1 k2 hSA3 hTL3 hx
    unfold tv
    go_wp2_with fail
    refine HEND.out.mono ?_
    intro e w4 hg
    obtain ⟨hww, hg⟩ := hg
    rw [hww] at HKK HB5 HFIN
    clear hww HEND q0 q1 q2 q3 q4 g0 g1x g2 g3 g4 hGl p1 p2 p3 p4 rr
    obtain ⟨⟨q0, q1, q2, q3, q4⟩, ⟨g0, g1x, g2, g3, g4⟩, hGl⟩ := cells5_of HKK.out.1
    have p1 : w4.cell? ⟨w.heap.size + 1, 0, none⟩ = some (.int .i64 0) := by rw [Lib.cell_of_heap HKK.out.2.1]; rfl
    have p2 : w4.cell? ⟨w.heap.size + 2, 0, none⟩ = some (.int .i64 0) := by rw [Lib.cell_of_heap HKK.out.2.2]; rfl
    have p3 : w4.frozen? ⟨w.heap.size + 1, 0, none⟩ = false := Lib.frozen_of_heap HKK.out.2.1 0
    have p4 : w4.frozen? ⟨w.heap.size + 2, 0, none⟩ = false := Lib.frozen_of_heap HKK.out.2.2 0
    cases hy : endP (ofL s.data.toList).2.1 (ofL s.data.toList).2.2 r with
    | error at_ =>
      rw [hy] at hg
      obtain rfl := hg
      have HX := Lib.hid (show readT s.data.toList names i j = .error at_ by unfold readT; rw [HX1.out]; simp only; rw [hy])
      clear hy
      unfold faultP
      go_wp2
      refine leaves_cons (f := 42) (args := #[.pointer (some ⟨w.heap.size, 0, none⟩), .pointer (some ⟨w.heap.size + 1, 0, none⟩), .pointer (some ⟨w.heap.size + 2, 0, none⟩)]) (by simp) (by simp [go_sem]) ?_
      refine (catch_panicking w.heap.size at_ w4 HKK.out.1 HKK.out.2.1 HKK.out.2.2).mono ?_
      rintro e u' w'' ⟨rfl, rfl, hC⟩
      show ∃ v, (results _ _).run _ _ = .ok v _ ∧ _
      refine ⟨_, read_results _ w'' w.heap.size _ _ _ _ _ _ _ rfl rfl rfl hC.1 hC.2.1 hC.2.2.1, ?_⟩
      rw [HX.out]
      exact ⟨HB5.out.trans hC.2.2.2, rfl⟩
    | ok u =>
      rw [hy] at hg
      obtain rfl := hg
      have HX := Lib.hid (show readT s.data.toList names i j = .ok t by unfold readT; rw [HX1.out]; simp only; rw [hy])
      clear hy
      go_wp2
      refine leaves_cons (f := 42) (args := #[.pointer (some ⟨w.heap.size, 0, none⟩), .pointer (some ⟨w.heap.size + 1, 0, none⟩), .pointer (some ⟨w.heap.size + 2, 0, none⟩)]) (by simp) (by simp [go_sem]) ?_
      refine (catch_idle w.heap.size _).mono ?_
      rintro e u' w'' ⟨rfl, rfl, rfl⟩
      show ∃ v, (results _ _).run _ _ = .ok v _ ∧ _
      refine ⟨_, read_results _ (finV w4 w.heap.size (.int .i64 t.k) (.int .i64 t.i) (.int .i64 t.j) (.int .i64 t.n) (.slice au t.kids.length cu)) w.heap.size _ _ _ _ _ _ _ rfl rfl rfl HFIN.out.1 HFIN.out.2.1 HFIN.out.2.2.1, ?_⟩
      rw [HX.out]
      exact ⟨HB2.out.trans HFIN.out.2.2.2.2, _, rfl, HFIN.out.2.2.2.1.from (by have := HWS.out; omega), HFI.out⟩
end Go.Proofs.YtllkackipdcekaaDoor

namespace Go.Proofs.YtllkackipdcekaaDoor
open Go.RowKit Go.Maps Go.ChangeShapes

theorem results_ct2 {P : Program} {fn : Func} {p q r : Tmp} {ty : TypeId} (h : fn.results = #[.cell p ty, .tmp q, .tmp r]) (tmps : Array Value) (w : World) (g : Nat) (t : TypeId) (cs : Array Value) (fr : Nat × Nat) (d : TypeDesc)
    (hp : tmps.getD p undef = .pointer (some ⟨g, 0, none⟩)) (hg : w.heap[g]? = some (.cells cs t fr))
    (hu : P.underlying ty = some d) (hd : (match d with | .struct _ | .array _ _ => true | _ => false) = true) (hi : (P.info? ty).map (·.size) = some cs.size) :
    (results fn tmps).run P w = .ok (.tuple #[.agg cs, tmps.getD q undef, tmps.getD r undef]) w := by
  have hp' : tmps[p]?.getD undef = .pointer (some ⟨g, 0, none⟩) := by simpa using hp
  simp [results, h, hp', asAddr, run_loadVar_row w g t ty cs fr d hg hu hd hi]
def readB (l : List UInt8) (names : Names) (i j : Int) : Except (Nat × Nat) Tm :=
  if i < 0 ∨ 1000 < i ∨ j < 0 ∨ 1000 < j then .error (1, 0) else
    match readT l names i j with
    | .error a => .error (2, a)
    | .ok t => .ok t
def ReadG (w : World) (x : Except (Nat × Nat) Tm) (e : Ending) (w' : World) : Prop := Below w.heap.size w w' ∧ match x with
  | .error (k, a) => e = .returned (.tuple #[.agg #[.int .i64 0, .int .i64 0, .int .i64 0, .int .i64 0, .slice none 0 0], .int .i64 k, .int .i64 a])
  | .ok t => ∃ s, e = .returned (.tuple #[tv t s, .int .i64 0, .int .i64 0]) ∧ LiesP w' (Own w.heap.size w') t.kids s ∧ t.fine
theorem TabsR.up {B B' : Nat} {w : World} (h : TabsR B w) (hB : B ≤ B') : TabsR B' w := ⟨by have := h.lo; omega, h.heads, h.syms⟩
theorem TxLies.up {B B' : Nat} {w : World} {l : Names} {v : Value} (h : TxLies B w l v) (hB : B ≤ B') : TxLies B' w l v := by
  obtain ⟨a, c, e1, e2, e3, e4⟩ := h
  exact ⟨a, c, e1, e2, e3, fun q hq => by obtain ⟨g, o, h1, h2, h3⟩ := e4 q hq; exact ⟨g, o, h1, by omega, h3⟩⟩
set_option maxHeartbeats 400000 in
set_option maxRecDepth 20000 in
theorem read_any (s : ByteArray) (names : Names) (nv : Value) (i j : Int) (w : World) (hs : s.size ≤ 10000000) (hT : TabsR w.heap.size w) (hN : TxLies w.heap.size w names nv) (hm : names.length ≤ 10000000) (hsh : ∀ y ∈ names, y.length ≤ 10000000) :
    Calls Tryd.prog 12 #[.string s, nv, .int .i64 i, .int .i64 j] w (ReadG w (readB s.data.toList names i j)) := by
  obtain ⟨du, hu1, hu2⟩ := under_term
  obtain ⟨a, cap, rfl, hN2⟩ := hN
  have hN : TxLies w.heap.size w names (.slice a names.length cap) := ⟨a, cap, rfl, hN2⟩
  have hba := al w zT
  have hsz : (w.alloc zT).heap.size = w.heap.size + 1 := by simp
  have HG := Lib.hid (show (w.alloc zT).heap[w.heap.size]? = some zT from alloc_new _ _)
  have HW := Lib.hid (fun (h : (0 ≤ i ∧ i ≤ 1000) ∧ 0 ≤ j ∧ j ≤ 1000) => whole_any s names a cap i j h (w.alloc zT) hs ((hT.keep hba).up (by omega)) ((hN.keep hba).up (by omega)) hm hsh)
  have HBA := Lib.hid hba
  have HSZ := Lib.hid hsz
  clear hN hN2 hT hba hsh hsz
  by_cases c1 : i < 0
  · skip
    have HX := Lib.hid (show readB s.data.toList names i j = .error (1, 0) from if_pos (by omega))
    go_enter Tryd.func12, Tryd.ntmps12
    go_wp2
    refine bodyPost_ret (results_ct2 rfl _ _ w.heap.size _ _ _ du rfl HG.out hu1 (by cases du <;> first | rfl | exact hu2) size_term) rfl ?_
    rw [HX.out]
    exact ⟨HBA.out, rfl⟩
  by_cases c2 : 1000 < i
  · skip
    have HX := Lib.hid (show readB s.data.toList names i j = .error (1, 0) from if_pos (by omega))
    go_enter Tryd.func12, Tryd.ntmps12
    go_wp2
    refine bodyPost_ret (results_ct2 rfl _ _ w.heap.size _ _ _ du rfl HG.out hu1 (by cases du <;> first | rfl | exact hu2) size_term) rfl ?_
    rw [HX.out]
    exact ⟨HBA.out, rfl⟩
  by_cases c3 : j < 0
  · skip
    have HX := Lib.hid (show readB s.data.toList names i j = .error (1, 0) from if_pos (by omega))
    go_enter Tryd.func12, Tryd.ntmps12
    go_wp2
    refine bodyPost_ret (results_ct2 rfl _ _ w.heap.size _ _ _ du rfl HG.out hu1 (by cases du <;> first | rfl | exact hu2) size_term) rfl ?_
    rw [HX.out]
    exact ⟨HBA.out, rfl⟩
  by_cases c4 : 1000 < j
  · skip
    have HX := Lib.hid (show readB s.data.toList names i j = .error (1, 0) from if_pos (by omega))
    go_enter Tryd.func12, Tryd.ntmps12
    go_wp2
    refine bodyPost_ret (results_ct2 rfl _ _ w.heap.size _ _ _ du rfl HG.out hu1 (by cases du <;> first | rfl | exact hu2) size_term) rfl ?_
    rw [HX.out]
    exact ⟨HBA.out, rfl⟩
  have HC := Lib.hid (HW.out (by omega))
  have HX := Lib.hid (show readB s.data.toList names i j = (match readT s.data.toList names i j with
    | .error a => .error (2, a)
    | .ok t => .ok t) from if_neg (by omega))
  clear HW
  go_enter Tryd.func12, Tryd.ntmps12
  go_wp2_with fail
  refine HC.out.mono ?_
  intro e w2 hg
  obtain ⟨hB, hg⟩ := hg
  have hz2 := (hB.block w.heap.size (by have := HSZ.out; omega)).trans HG.out
  obtain ⟨⟨q0, q1, q2, q3, q4⟩, ⟨g0, g1x, g2, g3, g4⟩, hGl⟩ := cells5_of hz2
  have HZ := Lib.hid hz2
  have HB := Lib.hid (HBA.out.trans (hB.mono (by have := HSZ.out; omega)))
  clear hz2 hB HBA
  cases hx : readT s.data.toList names i j with
  | error at_ =>
    rw [hx] at hg HX
    obtain rfl := hg
    clear hx
    go_wp2
    refine bodyPost_ret (results_ct2 rfl _ _ w.heap.size _ _ _ du rfl (five_set HZ.out) hu1 (by cases du <;> first | rfl | exact hu2) size_term) rfl ?_
    rw [HX.out]
    exact ⟨HB.out.trans (below_grown (Nat.le_refl _) (cell5_grown w2 w.heap.size 0 (.int .i64 0) (.int .i64 0) (.int .i64 0) (.int .i64 0) (.slice none 0 0)) (by omega)), rfl⟩
  | ok t =>
    rw [hx] at hg HX
    obtain ⟨sv, rfl, hl, hfi⟩ := hg
    obtain ⟨au, cu, rfl, -, -⟩ := hl.out
    have c5 := cell5_grown w2 w.heap.size 0 (.int .i64 t.k) (.int .i64 t.i) (.int .i64 t.j) (.int .i64 t.n) (.slice au t.kids.length cu)
    have HLL := Lib.hid ((liesP_grown hl c5 (by have := HSZ.out; omega)).from (B' := w.heap.size) (by have := HSZ.out; omega))
    have HBB := Lib.hid (HB.out.trans (below_grown (Nat.le_refl _) c5 (by omega)))
    have HFI := Lib.hid hfi
    clear hx hl c5 hfi
    unfold tv
    go_wp2
    refine bodyPost_ret (results_ct2 rfl _ _ w.heap.size _ _ _ du rfl (five_set HZ.out) hu1 (by cases du <;> first | rfl | exact hu2) size_term) rfl ?_
    rw [HX.out]
    exact ⟨HBB.out, _, rfl, HLL.out, HFI.out⟩
/-- Name. -/
def nameB (n : Int) : List UInt8 := if 1 ≤ n ∧ n ≤ 21 then (symsW[(n - 1).toNat]?).getD [] else []
set_option maxHeartbeats 2000000 in
set_option maxRecDepth 20000 in
theorem nameR_any (B : Nat) (n : Int) (w : World) (hT : TabsR B w) : Calls Tryd.prog 18 #[.int .i64 n] w fun e w' => e = .returned (.string ⟨(nameB n).toArray⟩) ∧ w = w' := by
  have HT := Lib.hid hT
  clear hT
  by_cases c1 : n < 1
  · have HX := Lib.hid (show nameB n = [] from if_neg (by omega))
    go_enter Tryd.func18, Tryd.ntmps18
    go_wp2
    go_ret
    rw [HX.out]
    exact ⟨rfl, rfl⟩
  by_cases c2 : 21 < n
  · have HX := Lib.hid (show nameB n = [] from if_neg (by omega))
    go_enter Tryd.func18, Tryd.ntmps18
    go_wp2
    go_ret
    rw [HX.out]
    exact ⟨rfl, rfl⟩
  obtain ⟨k, rfl⟩ : ∃ k : Nat, n = (k : Int) + 1 := ⟨(n - 1).toNat, by omega⟩
  have hk : k < 21 := by omega
  have HX := Lib.hid (show nameB ((k : Int) + 1) = (symsW[k]?).getD [] by unfold nameB; rw [if_pos (by omega), show ((k : Int) + 1 - 1).toNat = k by omega])
  have hw : IntKind.i64.wrap ((k : Int) + 1 - 1) = (k : Int) := by rw [IntWalk.i64_in _ (by omega)]; omega
  have hc := HT.out.syms k hk
  generalize (symsW[k]?).getD [] = y at HX hc
  go_enter Tryd.func18, Tryd.ntmps18
  go_wp2
  go_ret
  rw [HX.out]
  exact ⟨rfl, rfl⟩
end Go.Proofs.YtllkackipdcekaaDoor

namespace Go.Proofs.YtllkackipdcekaaDoor

def Lk (a b : List Tok) : Prop := a.map (fun t => (t.k, t.s)) = b.map (fun t => (t.k, t.s))
theorem Lk.nil {b : List Tok} (h : Lk [] b) : b = [] := by unfold Lk at h; simpa using h.symm
theorem Lk.cons {t : Tok} {r b : List Tok} (h : Lk (t :: r) b) : ∃ t1 r1, b = t1 :: r1 ∧ t1.k = t.k ∧ t1.s = t.s ∧ Lk r r1 := by
  cases b with
  | nil => unfold Lk at h; simp at h
  | cons t1 r1 =>
    unfold Lk at h
    simp only [List.map_cons, List.cons.injEq, Prod.mk.injEq] at h
    exact ⟨t1, r1, rfl, h.1.1.symm, h.1.2.symm, h.2⟩
def Fol {α : Type} (p p' : List Tok → Except Nat (α × List Tok)) : Prop := ∀ ts v r ts1 x, p ts = .ok (v, r) → Lk ts ts1 → ∃ r1, p' (ts1 ++ x) = .ok (v, r1 ++ x) ∧ Lk r r1
theorem take_fol {E E' k : Nat} {ts r ts1 : List Tok} {t : Tok} (x : List Tok) (h : takeT E k ts = .ok (t, r)) (hl : Lk ts ts1) : ∃ t1 r1, takeT E' k (ts1 ++ x) = .ok (t1, r1 ++ x) ∧ t1.s = t.s ∧ Lk r r1 := by
  obtain ⟨rfl, hk⟩ := takeT_eq h
  obtain ⟨t1, r1, rfl, e1, e2, e3⟩ := hl.cons
  refine ⟨t1, r1, ?_, e2, e3⟩
  show takeT E' k (t1 :: (r1 ++ x)) = _
  unfold takeT
  dsimp only
  rw [if_pos (e1.trans hk)]
theorem numQ_fol {E E' : Nat} {lv lv' : List Tok → Except Nat (Int × List Tok)} (hlv : Fol lv lv') : Fol (numQ lv E) (numQ lv' E') := by
  intro ts v r ts1 x h hl
  unfold numQ at h
  split at h; · cases h
  rename_i w r2 h2
  obtain ⟨w1, q2, e2, s2, l2⟩ := take_fol (E' := E') x h2 hl
  unfold numQ
  rw [e2]
  dsimp only
  rw [s2]
  split at h
  · rename_i hs
    rw [if_pos hs]
    split at h; · cases h
    rename_i n r3 h3
    obtain ⟨q3, e3, l3⟩ := hlv _ _ _ _ x h3 l2
    rw [e3]
    dsimp only
    split at h; · cases h
    rename_i h4
    obtain ⟨w4, q4, e4, s4, l4⟩ := take_fol (E' := E') x h4 l3
    rw [e4]
    cases h
    exact ⟨q4, rfl, l4⟩
  · rename_i hs
    rw [if_neg hs]
    split at h
    · rename_i hs2
      rw [if_pos hs2]
      split at h; · cases h
      rename_i n r3 h3
      obtain ⟨q3, e3, l3⟩ := hlv _ _ _ _ x h3 l2
      rw [e3]
      dsimp only
      split at h; · cases h
      rename_i n2 r4 h4
      obtain ⟨q4, e4, l4⟩ := hlv _ _ _ _ x h4 l3
      rw [e4]
      dsimp only
      split at h; · cases h
      rename_i h5
      obtain ⟨w5, q5, e5, s5, l5⟩ := take_fol (E' := E') x h5 l4
      rw [e5]
      cases h
      exact ⟨q5, rfl, l5⟩
    · cases h
theorem numP_fol {E E' : Nat} {i j : Int} {lv lv' : List Tok → Except Nat (Int × List Tok)} (hlv : Fol lv lv') : Fol (numP lv E i j) (numP lv' E' i j) := by
  intro ts v r ts1 x h hl
  cases ts with
  | nil => cases h
  | cons t r0 =>
    obtain ⟨t1, r1, rfl, e1, e2, e3⟩ := hl.cons
    unfold numP at h
    show ∃ q, numP lv' E' i j (t1 :: (r1 ++ x)) = _ ∧ _
    unfold numP
    dsimp only at h ⊢
    rw [e1, e2]
    split at h
    · rename_i c1
      rw [if_pos c1]
      cases h
      exact ⟨r1, rfl, e3⟩
    · rename_i c1
      rw [if_neg c1]
      split at h
      · rename_i c2
        rw [if_pos c2]
        split at h
        · rename_i c3
          rw [if_pos c3]
          cases h
          exact ⟨r1, rfl, e3⟩
        · rename_i c3
          rw [if_neg c3]
          split at h
          · rename_i c4
            rw [if_pos c4]
            cases h
            exact ⟨r1, rfl, e3⟩
          · cases h
      · rename_i c2
        rw [if_neg c2]
        split at h
        · rename_i c3
          rw [if_pos c3]
          exact numQ_fol hlv _ _ _ _ x h e3
        · cases h
theorem levelP_fol {E E' : Nat} {i j : Int} : ∀ {f f' : Nat}, f ≤ f' → Fol (levelP E i j f) (levelP E' i j f')
  | 0, f', _ => fun ts v r ts1 x h hl => by cases h
  | f + 1, 0, hf => by omega
  | f + 1, f' + 1, hf => fun ts v r ts1 x h hl => by
    unfold levelP at h
    split at h; · cases h
    rename_i n q hn
    split at h; · cases h
    rename_i hle
    obtain ⟨q1, e1, l1⟩ := numP_fol (E' := E') (levelP_fol (E' := E') (i := i) (j := j) (show f ≤ f' by omega)) _ _ _ _ x hn hl
    unfold levelP
    rw [e1]
    dsimp only
    rw [if_neg hle]
    cases h
    exact ⟨q1, rfl, l1⟩
def FolT (tp tp' : Int → Names → List Tok → Except Nat (Tm × List Tok)) : Prop := ∀ s N, Fol (tp s N) (tp' s N)
theorem kidsP_fol {tp tp' : Int → Names → List Tok → Except Nat (Tm × List Tok)} (htp : FolT tp tp') {k own : Int} {y : List UInt8} : ∀ {c p : Nat} {N : Names}, Fol (kidsP tp k own y p c N) (kidsP tp' k own y p c N)
  | 0, p, N => fun ts v r ts1 x h hl => by unfold kidsP at h; cases h; exact ⟨ts1, rfl, hl⟩
  | c + 1, p, N => fun ts v r ts1 x h hl => by
    unfold kidsP at h
    split at h; · cases h
    rename_i t r1 h1
    obtain ⟨q1, e1, l1⟩ := htp _ _ _ _ _ _ x h1 hl
    split at h; · cases h
    rename_i l r2 h2
    obtain ⟨q2, e2, l2⟩ := kidsP_fol htp (c := c) _ _ _ _ x h2 l1
    unfold kidsP
    rw [e1]
    dsimp only
    rw [e2]
    cases h
    exact ⟨q2, rfl, l2⟩
theorem kidsK_fol {E E' : Nat} {tp tp' : Int → Names → List Tok → Except Nat (Tm × List Tok)} (htp : FolT tp tp') {k n own : Int} {N : Names} : Fol (kidsK tp E k n own N) (kidsK tp' E' k n own N) := by
  intro ts v r ts1 x h hl
  unfold kidsK at h ⊢
  split at h
  · rename_i c1
    rw [if_pos c1]
    cases h
    exact ⟨ts1, rfl, hl⟩
  · rename_i c1
    rw [if_neg c1]
    split at h
    · rename_i c2
      rw [if_pos c2]
      split at h; · cases h
      rename_i w q hw
      obtain ⟨w1, q1, e1, s1, l1⟩ := take_fol (E' := E') x hw hl
      rw [e1]
      dsimp only
      rw [s1]
      exact kidsP_fol htp _ _ _ _ x h l1
    · rename_i c2
      rw [if_neg c2]
      exact kidsP_fol htp _ _ _ _ x h hl
theorem kidsJ_fol {E E' : Nat} {tp tp' : Int → Names → List Tok → Except Nat (Tm × List Tok)} (htp : FolT tp tp') {N : Names} : Fol (kidsJ tp E N) (kidsJ tp' E' N) := by
  intro ts v r ts1 x h hl
  unfold kidsJ at h
  split at h; · cases h
  rename_i h1
  obtain ⟨q1, e1, l1⟩ := htp _ _ _ _ _ _ x h1 hl
  split at h; · cases h
  rename_i h2
  obtain ⟨q2, e2, l2⟩ := htp _ _ _ _ _ _ x h2 l1
  split at h; · cases h
  rename_i h3
  obtain ⟨w3, q3, e3, s3, l3⟩ := take_fol (E' := E') x h3 l2
  split at h; · cases h
  rename_i h4
  obtain ⟨w4, q4, e4, s4, l4⟩ := take_fol (E' := E') x h4 l3
  split at h; · cases h
  rename_i h5
  obtain ⟨q5, e5, l5⟩ := htp _ _ _ _ _ _ x h5 l4
  split at h; · cases h
  rename_i h6
  obtain ⟨q6, e6, l6⟩ := htp _ _ _ _ _ _ x h6 l5
  split at h; · cases h
  rename_i h7
  obtain ⟨q7, e7, l7⟩ := htp _ _ _ _ _ _ x h7 l6
  split at h; · cases h
  rename_i h8
  obtain ⟨q8, e8, l8⟩ := htp _ _ _ _ _ _ x h8 l7
  cases h
  unfold kidsJ
  rw [e1]; dsimp only; rw [e2]; dsimp only; rw [e3]; dsimp only; rw [e4]; dsimp only; rw [s3, s4, e5]; dsimp only; rw [e6]; dsimp only; rw [e7]; dsimp only; rw [e8]
  exact ⟨q8, rfl, l8⟩
theorem symP_fol {E E' : Nat} {k : Int} : Fol (symP E k) (symP E' k) := by
  intro ts v r ts1 x h hl
  unfold symP at h ⊢
  split at h
  · rename_i c1
    rw [if_pos c1]
    split at h; · cases h
    rename_i w q hw
    obtain ⟨w1, q1, e1, s1, l1⟩ := take_fol (E' := E') x hw hl
    rw [e1]
    dsimp only
    rw [s1]
    split at h; · cases h
    rename_i c2
    rw [if_neg c2]
    cases h
    exact ⟨q1, rfl, l1⟩
  · rename_i c1
    rw [if_neg c1]
    cases h
    exact ⟨ts1, rfl, hl⟩
theorem lv_fol {lv lv' : List Tok → Except Nat (Int × List Tok)} (hlv : Fol lv lv') (c : Prop) [Decidable c] : Fol (fun ts => if c then lv ts else .ok ((0 : Int), ts)) (fun ts => if c then lv' ts else .ok ((0 : Int), ts)) := by
  intro ts v r ts1 x h hl
  dsimp only at h ⊢
  split at h
  · rename_i c1
    rw [if_pos c1]
    exact hlv _ _ _ _ x h hl
  · rename_i c1
    rw [if_neg c1]
    cases h
    exact ⟨ts1, rfl, hl⟩
theorem bodyP_fol {E E' : Nat} {lv lv' : List Tok → Except Nat (Int × List Tok)} (hlv : Fol lv lv') {tp tp' : Int → Names → List Tok → Except Nat (Tm × List Tok)} (htp : FolT tp tp') {k : Int} {N : Names} : Fol (bodyP lv tp E k N) (bodyP lv' tp' E' k N) := by
  intro ts v r ts1 x h hl
  unfold bodyP at h
  split at h; · cases h
  rename_i n r1 h1
  obtain ⟨q1, e1, l1⟩ := symP_fol (E' := E') _ _ _ _ x h1 hl
  split at h; · cases h
  rename_i i r2 h2
  obtain ⟨q2, e2, l2⟩ := lv_fol hlv (0 < levelsN k) _ _ _ _ x h2 l1
  split at h; · cases h
  rename_i j r3 h3
  obtain ⟨q3, e3, l3⟩ := lv_fol hlv (1 < levelsN k) _ _ _ _ x h3 l2
  split at h; · cases h
  rename_i l r4 h4
  have g4 : ∃ q4, kdsP tp' E' k n N (q3 ++ x) = .ok (l, q4 ++ x) ∧ Lk r4 q4 := by
    unfold kdsP at h4 ⊢
    split at h4
    · rename_i c1
      rw [if_pos c1]
      exact kidsJ_fol htp _ _ _ _ x h4 l3
    · rename_i c1
      rw [if_neg c1]
      exact kidsK_fol htp _ _ _ _ x h4 l3
  obtain ⟨q4, e4, l4⟩ := g4
  split at h; · cases h
  rename_i h5
  obtain ⟨w5, q5, e5, s5, l5⟩ := take_fol (E' := E') x h5 l4
  have e2' : lvaP lv' k (q1 ++ x) = .ok (i, q2 ++ x) := e2
  have e3' : lvbP lv' k (q2 ++ x) = .ok (j, q3 ++ x) := e3
  unfold bodyP
  rw [e1]; dsimp only; rw [e2']; dsimp only; rw [e3']; dsimp only; rw [e4]; dsimp only; rw [e5]
  cases h
  exact ⟨q5, rfl, l5⟩
/-- What is read stays read: other offsets, another end, more to come, more fuel. -/
theorem termP_fol {E E' : Nat} {i j : Int} : ∀ {f f' : Nat}, f ≤ f' → FolT (termP E i j f) (termP E' i j f')
  | 0, f', _ => fun s N ts v r ts1 x h hl => by cases h
  | f + 1, 0, hf => by omega
  | f + 1, f' + 1, hf => fun s N ts v r ts1 x h hl => by
    cases ts with
    | nil => cases h
    | cons t r0 =>
      obtain ⟨t1, r1, rfl, e1, e2, e3⟩ := hl.cons
      unfold termP at h
      show ∃ q, termP E' i j (f' + 1) s N (t1 :: (r1 ++ x)) = _ ∧ _
      unfold termP
      rw [e1, e2]
      split at h
      · rename_i c1
        rw [if_pos c1]
        unfold listP at h ⊢
        split at h; · cases h
        rename_i w q hw
        obtain ⟨w1, q1, g1, s1, l1⟩ := take_fol (E' := E') x hw e3
        rw [g1]
        dsimp only
        rw [s1]
        split at h; · cases h
        rename_i c2
        rw [if_neg c2]
        exact bodyP_fol (levelP_fol (E' := E') (by omega)) (termP_fol (E' := E') (by omega)) _ _ _ _ x h l1
      · rename_i c1
        rw [if_neg c1]
        split at h
        · rename_i c2
          rw [if_pos c2]
          split at h; · cases h
          rename_i p hp
          (try rw [hp])
          cases h
          exact ⟨r1, rfl, e3⟩
        · cases h
end Go.Proofs.YtllkackipdcekaaDoor

namespace Go.Proofs.YtllkackipdcekaaDoor

theorem Lk.refl (ts : List Tok) : Lk ts ts := rfl
theorem readB_mk {l : List UInt8} {names : Names} {i j : Int} {t : Tm} {ts : List Tok} (hc : ¬ (i < 0 ∨ 1000 < i ∨ j < 0 ∨ 1000 < j)) (hx : lexL l 0 = (ts, none)) (h : termP l.length i j (ts.length + 1) 0 names.reverse ts = .ok (t, [])) : readB l names i j = .ok t := by
  have ho : ofL l = (ts, l.length, false) := by unfold ofL; rw [hx]
  unfold readB readT
  rw [if_neg hc, ho]
  dsimp only
  rw [h]
  rfl
end Go.Proofs.YtllkackipdcekaaDoor

namespace Go.Proofs.YtllkackipdcekaaDoor
open Go.Lib

/-- The words of a whole text, without their places. -/
def LX (l : List UInt8) (ps : List (Nat × List UInt8)) : Prop := ∃ ts, lexL l 0 = (ts, none) ∧ ts.map (fun t => (t.k, t.s)) = ps
theorem LX.nil : LX [] [] := ⟨[], lexL_end (by simp), rfl⟩
theorem LX.blank {Y : List UInt8} {ps : List (Nat × List UInt8)} (h : LX Y ps) : LX (32 :: Y) ps := by
  obtain ⟨ts, h1, h2⟩ := h
  have h3 := lex_shift [32] Y _ 0 (Nat.le_refl _)
  rw [h1] at h3
  have h4 : lexL (32 :: Y) 0 = lexL (32 :: Y) 1 := lexL_same (by
    rw [List.drop_zero, skipL_blank (by decide)]
    show 0 + (skipL Y + 1) = 1 + skipL Y
    omega)
  exact ⟨_, h4.trans h3, by rw [← h2]; simp⟩
theorem LX.tok {k : Nat} {s Y : List UInt8} {ps : List (Nat × List UInt8)} (ht : Solid ⟨k, s, 0⟩) (hY : Stops Y) (h : LX Y ps) : LX (s ++ Y) ((k, s) :: ps) := by
  obtain ⟨ts, h1, h2⟩ := h
  obtain ⟨n1, n2⟩ := ht Y hY
  simp only at n1 n2
  have hr := nextL_range n1
  have hx := lex_shift s Y _ 0 (Nat.le_refl _)
  rw [h1] at hx
  have h5 := lexL_next (l := s ++ Y) (p := 0) (q := 0) (k := k) (n := s.length) (by rw [List.drop_zero, n2]) (by simp at hr ⊢; omega) (by rw [List.drop_zero]; exact n1)
  rw [hx] at h5
  exact ⟨_, h5, by rw [← h2]; simp [shB]⟩
theorem runL_all {p : UInt8 → Bool} : ∀ {l : List UInt8}, l.all p = true → runL p l = l.length
  | [], _ => rfl
  | c :: r, h => by
    rw [List.all_cons, Bool.and_eq_true] at h
    rw [runL_yes h.1, runL_all h.2]
    rfl
theorem letter_not {c : UInt8} (h : letterC c = true) : ¬ c.toNat = 40 ∧ ¬ c.toNat = 41 ∧ ¬ c.toNat = 32 := by
  unfold letterC at h
  simp only [Bool.or_eq_true, Bool.and_eq_true, decide_eq_true_eq] at h
  omega
theorem sol_word {c : UInt8} {r : List UInt8} (h1 : letterC c = true) (h2 : r.all wordC = true) (h3 : r.length < 20) : Solid ⟨3, c :: r, 0⟩ := by
  obtain ⟨n1, n2, -⟩ := letter_not h1
  have hl : runL wordC (c :: r) = (c :: r).length := runL_all (by rw [List.all_cons, h2]; unfold wordC; rw [h1]; rfl)
  have hn := next_word (r := r) n1 n2 h1 (by rw [hl]; simp; omega)
  have h := solid_of (a := 0) hn
  rw [hl, List.take_length] at h
  exact h
theorem stops_nil : Stops [] := fun c r e => by cases e
theorem stops_32 (Y : List UInt8) : Stops (32 :: Y) := fun c r e => by cases e; decide
theorem stops_41 (Y : List UInt8) : Stops (41 :: Y) := fun c r e => by cases e; decide
theorem LX.open_ {Y : List UInt8} {ps : List (Nat × List UInt8)} (h : LX Y ps) : LX (40 :: Y) ((1, [40]) :: ps) := by
  obtain ⟨ts, h1, h2⟩ := h
  have hx := lex_shift [40] Y _ 0 (Nat.le_refl _)
  rw [h1] at hx
  have h5 := lexL_next (l := 40 :: Y) (p := 0) (q := 0) (k := 1) (n := 1) (by rw [List.drop_zero, skipL_stop (by decide) (by decide)]) (by simp) (by rw [List.drop_zero]; exact next_open (by decide))
  rw [show lexL (40 :: Y) (0 + 1) = shB 1 (ts, none) from hx] at h5
  exact ⟨_, h5, by rw [← h2]; simp [shB]⟩
theorem LX.close {Y : List UInt8} {ps : List (Nat × List UInt8)} (h : LX Y ps) : LX (41 :: Y) ((2, [41]) :: ps) := by
  obtain ⟨ts, h1, h2⟩ := h
  have hx := lex_shift [41] Y _ 0 (Nat.le_refl _)
  rw [h1] at hx
  have h5 := lexL_next (l := 41 :: Y) (p := 0) (q := 0) (k := 2) (n := 1) (by rw [List.drop_zero, skipL_stop (by decide) (by decide)]) (by simp) (by rw [List.drop_zero]; exact next_close (by decide))
  rw [show lexL (41 :: Y) (0 + 1) = shB 1 (ts, none) from hx] at h5
  exact ⟨_, h5, by rw [← h2]; simp [shB]⟩
def tk (p : Nat × List UInt8) : Tok := ⟨p.1, p.2, 0⟩
theorem readB_LX {l : List UInt8} {ps : List (Nat × List UInt8)} {names : Names} {i j : Int} {E f : Nat} {t : Tm} (hc : ¬ (i < 0 ∨ 1000 < i ∨ j < 0 ∨ 1000 < j)) (hx : LX l ps) (hf : f ≤ ps.length + 1) (h : termP E i j f 0 names.reverse (ps.map tk) = .ok (t, [])) : readB l names i j = .ok t := by
  obtain ⟨ts, h1, h2⟩ := hx
  have hlen : ts.length = ps.length := by rw [← h2, List.length_map]
  refine readB_mk hc h1 ?_
  obtain ⟨r1, e1, e2⟩ := termP_fol (E' := l.length) (i := i) (j := j) (f := f) (f' := ts.length + 1) (by omega) 0 names.reverse (ps.map tk) t [] ts [] h (by unfold Lk; rw [h2, List.map_map]; exact List.map_id' _)
  obtain rfl := e2.nil
  rw [List.append_nil] at e1
  exact e1
end Go.Proofs.YtllkackipdcekaaDoor

namespace Go.Proofs.YtllkackipdcekaaDoor

def abcI : List (List UInt8) := [[97], [98], [99]]
def nmI (i : Nat) : List UInt8 := (abcI[i % 3]?).getD []
theorem nmI_cases (i : Nat) : (i % 3 = 0 ∧ nmI i = [97]) ∨ (i % 3 = 1 ∧ nmI i = [98]) ∨ (i % 3 = 2 ∧ nmI i = [99]) := by
  have : i % 3 = 0 ∨ i % 3 = 1 ∨ i % 3 = 2 := by omega
  rcases this with e | e | e
  · exact Or.inl ⟨e, by unfold nmI; rw [e]; rfl⟩
  · exact Or.inr (Or.inl ⟨e, by unfold nmI; rw [e]; rfl⟩)
  · exact Or.inr (Or.inr ⟨e, by unfold nmI; rw [e]; rfl⟩)
theorem nmI_same (i k : Nat) : nmI i = nmI k ↔ i % 3 = k % 3 := by
  rcases nmI_cases i with ⟨a, b⟩ | ⟨a, b⟩ | ⟨a, b⟩ <;> rcases nmI_cases k with ⟨c, d⟩ | ⟨c, d⟩ | ⟨c, d⟩ <;> rw [a, b, c, d] <;> simp
theorem nmI_len (i : Nat) : (nmI i).length = 1 := by
  rcases nmI_cases i with ⟨a, b⟩ | ⟨a, b⟩ | ⟨a, b⟩ <;> rw [b] <;> rfl
theorem nmI_solid (i : Nat) : Solid ⟨3, nmI i, 0⟩ := by
  rcases nmI_cases i with ⟨a, b⟩ | ⟨a, b⟩ | ⟨a, b⟩ <;> rw [b] <;> exact sol_word (by decide) (by decide) (by decide)
def lamT (i : Nat) : List UInt8 := [40, 76, 97, 109, 32] ++ nmI i ++ [32, 40, 115, 111, 114, 116, 32, 48, 41, 32]
def lamP (i : Nat) : List (Nat × List UInt8) := [(1, [40]), (3, [76, 97, 109]), (3, nmI i), (1, [40]), (3, [115, 111, 114, 116]), (4, [48]), (2, [41])]
def preT : Nat → List UInt8
  | 0 => []
  | i + 1 => preT i ++ lamT i
def preP : Nat → List (Nat × List UInt8)
  | 0 => []
  | i + 1 => preP i ++ lamP i
theorem sol_zero : Solid ⟨4, [48], 0⟩ := solid_of (X := [48]) (k := 4) (n := 1) (by kernel_rfl)
theorem lam_lx {i : Nat} {Y : List UInt8} {ps : List (Nat × List UInt8)} (h : LX Y ps) : LX (lamT i ++ Y) (lamP i ++ ps) := by
  have e : lamT i ++ Y = 40 :: ([76, 97, 109] ++ (32 :: (nmI i ++ (32 :: 40 :: ([115, 111, 114, 116] ++ (32 :: ([48] ++ (41 :: 32 :: Y)))))))) := by
    unfold lamT
    simp
  rw [e]
  show LX _ ((1, [40]) :: (3, [76, 97, 109]) :: (3, nmI i) :: (1, [40]) :: (3, [115, 111, 114, 116]) :: (4, [48]) :: (2, [41]) :: ps)
  refine LX.open_ (LX.tok (sol_word (by decide) (by decide) (by decide)) (stops_32 _) (LX.blank (LX.tok (nmI_solid i) (stops_32 _) (LX.blank (LX.open_ (LX.tok (sol_word (by decide) (by decide) (by decide)) (stops_32 _) (LX.blank (LX.tok sol_zero (stops_41 _) (LX.close (LX.blank h))))))))))
theorem pre_lx : ∀ (n : Nat) {Y : List UInt8} {ps : List (Nat × List UInt8)}, LX Y ps → LX (preT n ++ Y) (preP n ++ ps)
  | 0, Y, ps, h => h
  | n + 1, Y, ps, h => by
    show LX ((preT n ++ lamT n) ++ Y) ((preP n ++ lamP n) ++ ps)
    rw [List.append_assoc, List.append_assoc]
    exact pre_lx n (lam_lx h)
theorem closes_lx : ∀ n : Nat, LX (List.replicate n 41) (List.replicate n (2, [41]))
  | 0 => LX.nil
  | n + 1 => by rw [List.replicate_succ, List.replicate_succ]; exact LX.close (closes_lx n)
def innT (n k : Nat) : List UInt8 := preT n ++ nmI k ++ List.replicate n 41
def innP (n k : Nat) : List (Nat × List UInt8) := preP n ++ (3, nmI k) :: List.replicate n (2, [41])
theorem inn_lx (n k : Nat) : LX (innT n k) (innP n k) := by
  unfold innT innP
  rw [List.append_assoc]
  refine pre_lx n (LX.tok (nmI_solid k) ?_ (closes_lx n))
  cases n with
  | zero => exact stops_nil
  | succ n => rw [List.replicate_succ]; exact stops_41 _
def NI : Nat → Names
  | 0 => [[99], [122]]
  | n + 1 => nmI n :: NI n
def wantI : Nat → Nat → Nat
  | 0, _ => 0
  | n + 1, k => if n % 3 = k % 3 then 0 else wantI n k + 1
theorem idx_want (k : Nat) : ∀ n : Nat, k < n → idxL (nmI k) (NI n) = some (wantI n k)
  | n + 1, h => by
    show idxL (nmI k) (nmI n :: NI n) = _
    unfold idxL wantI
    by_cases h1 : n % 3 = k % 3
    · rw [if_pos ((nmI_same n k).2 h1), if_pos h1]
    · rw [if_neg (fun e => h1 ((nmI_same n k).1 e)), if_neg h1, idx_want k n (by
        rcases Nat.lt_or_ge k n with g | g
        · exact g
        · exact absurd (by rw [show n = k by omega]) h1)]
      rfl
def sort0 : Tm := .mk 1 0 0 0 []
def lamI (t : Tm) : Tm := .mk 14 0 0 0 [sort0, t]
def nestI : Nat → Tm → Tm
  | 0, t => t
  | n + 1, t => nestI n (lamI t)
theorem nest_out : ∀ (n : Nat) (t : Tm), nestI (n + 1) t = lamI (nestI n t)
  | 0, _ => rfl
  | n + 1, t => nest_out n (lamI t)
theorem lam_read (E : Nat) (f : Nat) (hf : 2 ≤ f) (so : Int) (hs : so = 0 ∨ so = 2) (i : Nat) (N : Names) (b r : List Tok) (t : Tm) (hb : termP E 0 0 f 2 (nmI i :: N) (b ++ ⟨2, [41], 0⟩ :: r) = .ok (t, ⟨2, [41], 0⟩ :: r)) :
    termP E 0 0 (f + 1) so N ((lamP i).map tk ++ (b ++ ⟨2, [41], 0⟩ :: r)) = .ok (lamI t, r) := by
  have hsort : ∀ q : List Tok, termP E 0 0 f 2 N (⟨1, [40], 0⟩ :: ⟨3, [115, 111, 114, 116], 0⟩ :: ⟨4, [48], 0⟩ :: ⟨2, [41], 0⟩ :: q) = .ok (sort0, q) := fun q => by
    match f, hf with
    | f + 2, _ =>
      rw [termP]
      simp only [if_true]
      unfold listP takeT
      simp only [if_true]
      rw [show headN [115, 111, 114, 116] = 1 from rfl, if_neg (by unfold sortN; simp)]
      unfold bodyP symP
      simp only [show ¬ ((1 : Int) = 23) by omega, if_false]
      unfold lvaP
      rw [show levelsN 1 = 1 from rfl]
      simp only [show (0 : Int) < 1 by omega, if_true]
      have hl : levelP E 0 0 (f + 1) (⟨4, [48], 0⟩ :: ⟨2, [41], 0⟩ :: q) = .ok (0, ⟨2, [41], 0⟩ :: q) := by
        unfold levelP numP
        simp only [if_true]
        rw [show (getB [48]).getD 0 = 0 by kernel_rfl]
        rw [if_neg (by decide)]
        rfl
      rw [hl]
      simp only [lvbP, show levelsN 1 = 1 from rfl, show ¬ ((1 : Int) < 1) by omega, if_false, kdsP, show ¬ ((1 : Int) = 22) by omega, kidsK, show kidsN 1 0 = 0 from rfl, Int.le_refl, if_true]
      rfl
  show termP E 0 0 (f + 1) so N (⟨1, [40], 0⟩ :: ⟨3, [76, 97, 109], 0⟩ :: ⟨3, nmI i, 0⟩ :: ⟨1, [40], 0⟩ :: ⟨3, [115, 111, 114, 116], 0⟩ :: ⟨4, [48], 0⟩ :: ⟨2, [41], 0⟩ :: (b ++ ⟨2, [41], 0⟩ :: r)) = _
  rw [termP]
  simp only [if_true]
  unfold listP takeT
  simp only [if_true]
  rw [show headN [76, 97, 109] = 14 by kernel_rfl]
  rw [if_neg (by unfold sortN; rcases hs with rfl | rfl <;> simp)]
  unfold bodyP symP
  simp only [show ¬ ((14 : Int) = 23) by omega, if_false]
  unfold lvaP lvbP
  rw [show levelsN 14 = 0 from rfl]
  simp only [show ¬ ((0 : Int) < 0) by omega, show ¬ ((1 : Int) < 0) by omega, if_false]
  unfold kdsP kidsK
  rw [show kidsN 14 0 = 2 from rfl, show bindsN 14 1 = 1 from rfl, show sortN 14 = 2 from rfl]
  simp only [show ¬ ((14 : Int) = 22) by omega, show ¬ ((2 : Int) ≤ 0) by omega, if_false, show (0 : Int) < 1 by omega, if_true]
  unfold takeT
  simp only [if_true]
  rw [show (2 : Int).toNat = 2 from rfl]
  unfold kidsP
  rw [show bindsN 14 ((0 : Nat) : Int) = 0 from rfl]
  simp only [show ¬ ((14 : Int) = 12 ∧ (0 : Nat) = 2) by omega, if_false, if_true]
  rw [hsort]
  simp only
  unfold kidsP
  rw [show bindsN 14 ((0 + 1 : Nat) : Int) = 1 from rfl]
  simp only [show ¬ ((14 : Int) = 12 ∧ (0 + 1 : Nat) = 2) by omega, if_false, show ¬ ((1 : Int) = 0) by omega]
  rw [hb]
  simp only
  unfold kidsP
  simp only [if_true]
  rfl
theorem pre_read (E : Nat) : ∀ (n : Nat) (b : List Tok) (t : Tm) (f : Nat), 2 ≤ f → (∀ so, so = 0 ∨ so = 2 → ∀ r, termP E 0 0 f so (NI n) (b ++ r) = .ok (t, r)) →
    ∀ so, so = 0 ∨ so = 2 → ∀ r, termP E 0 0 (f + n) so (NI 0) ((preP n).map tk ++ (b ++ (List.replicate n ⟨2, [41], 0⟩ ++ r))) = .ok (nestI n t, r)
  | 0, b, t, f, hf, h, so, hs, r => h so hs r
  | n + 1, b, t, f, hf, h, so, hs, r => by
    have ih := pre_read E n ((lamP n).map tk ++ (b ++ [⟨2, [41], 0⟩])) (lamI t) (f + 1) (by omega) (fun so' hs' r' => by
      rw [List.append_assoc, List.append_assoc]
      exact lam_read E f hf so' hs' n (NI n) b r' t (h 2 (Or.inr rfl) _)) so hs r
    rw [show f + 1 + n = f + (n + 1) by omega] at ih
    rw [show nestI (n + 1) t = nestI n (lamI t) from rfl, ← ih]
    congr 1
    show (preP n ++ lamP n).map tk ++ (b ++ (List.replicate (n + 1) ⟨2, [41], 0⟩ ++ r)) = _
    rw [List.map_append, List.replicate_succ]
    simp only [List.append_assoc, List.cons_append, List.nil_append]
theorem readIn (n k : Nat) (hk : k < n) : readB (innT n k) [[122], [99]] 0 0 = .ok (nestI n (.mk 2 (wantI n k) 0 0 [])) := by
  have hv : ∀ so, so = 0 ∨ so = 2 → ∀ r, termP (innT n k).length 0 0 2 so (NI n) ([⟨3, nmI k, 0⟩] ++ r) = .ok (.mk 2 (wantI n k) 0 0 [], r) := fun so _ r => by
    show termP _ 0 0 2 so (NI n) (⟨3, nmI k, 0⟩ :: r) = _
    rw [termP]
    simp only [show ¬ ((3 : Nat) = 1) by omega, if_false, if_true]
    rw [idx_want k n hk]
  have h := pre_read (innT n k).length n [⟨3, nmI k, 0⟩] _ 2 (by omega) hv 0 (Or.inl rfl) []
  refine readB_LX (E := (innT n k).length) (f := 2 + n) (by omega) (inn_lx n k) ?_ ?_
  · unfold innP
    have : (preP n).length = 7 * n := by
      clear h hv hk
      induction n with
      | zero => rfl
      | succ n ih => show (preP n ++ lamP n).length = _; rw [List.length_append, ih]; simp [lamP]; omega
    simp
    omega
  · rw [← h]
    congr 1
    unfold innP
    rw [List.map_append]
    simp [tk]
theorem readC : readB [99] [[99], [122], [99], [121]] 0 0 = .ok (.mk 2 1 0 0 []) := by kernel_rfl
end Go.Proofs.YtllkackipdcekaaDoor

namespace Go.Proofs.YtllkackipdcekaaDoor
theorem wk1 : readB [40, 76, 97, 109, 32, 120, 32, 40, 115, 111, 114, 116, 32, 105, 41, 32, 120, 41] [] 4 0 = .ok (.mk 14 0 0 0 [.mk 1 4 0 0 [], .mk 2 0 0 0 []]) := by kernel_rfl
theorem wk2 : readB [40, 76, 97, 109, 32, 120, 32, 40, 115, 111, 114, 116, 32, 48, 41, 32, 121, 41] [] 0 0 = .error (2, 16) := by kernel_rfl
end Go.Proofs.YtllkackipdcekaaDoor

namespace Go.Proofs.YtllkackipdcekaaDoor
open Go.RowKit Go.Maps Go.ChangeShapes

def wkT : Tm := .mk 14 0 0 0 [.mk 1 4 0 0 [], .mk 2 0 0 0 []]
theorem nil_texts (B : Nat) (w : World) : TxLies B w [] (.slice none 0 0) := ⟨none, 0, rfl, Nat.le_refl _, by unfold maxLen; omega, fun q hq => absurd hq (by simp)⟩
theorem kids2_cells {w : World} {B cap : Nat} {a : Option Addr} {x y : Tm} (h : LiesP w (Own B w) [x, y] (.slice a 2 cap)) : ∃ g, a = some ⟨g, 0, none⟩ ∧ 2 ≤ cap ∧ g < w.heap.size ∧ w.cell? ⟨g, 1, none⟩ = some (.int .i64 x.i) ∧ w.cell? ⟨g, 6, none⟩ = some (.int .i64 y.i) := by
  cases h with
  | mk _ _ _ S hc hm hf hn hk =>
    obtain ⟨b, rfl, hp, n0⟩ := hn 0 (by simp)
    obtain ⟨b', e, hp', n1⟩ := hn 1 (by simp)
    obtain rfl : b = b' := by injection e with e; injection e
    exact ⟨b, rfl, hc, hlt_of hp.2.choose_spec, n0.c1, n1.c1⟩
theorem symN_crefl : symN [99, 114, 101, 102, 108] = 21 := by decide
theorem nameB_one : nameB 1 = [117, 105, 112] := by decide
set_option maxRecDepth 20000 in
set_option maxHeartbeats 2000000 in
theorem wakes9_any (w : World) (hT : TabsR w.heap.size w) : Calls Tryd.prog 15 #[] w fun e w' => e = .returned (.bool true) ∧ Below w.heap.size w w' := by
  have H1 := Lib.hid (read_any ⟨#[40, 76, 97, 109, 32, 120, 32, 40, 115, 111, 114, 116, 32, 105, 41, 32, 120, 41]⟩ [] (.slice none 0 0) 4 0 w (by decide) hT (nil_texts _ _) (by decide) (fun y hy => by cases hy))
  rw [show readB (ByteArray.mk #[40, 76, 97, 109, 32, 120, 32, 40, 115, 111, 114, 116, 32, 105, 41, 32, 120, 41]).data.toList [] 4 0 = .ok wkT from wk1] at H1
  have HT := Lib.hid hT
  clear hT
  go_enter Tryd.func15, Tryd.ntmps15
  go_wp2_with fail
  refine H1.out.mono ?_
  intro e w1 hg
  obtain ⟨hB1, sv, he, hl, hfi⟩ := hg
  obtain ⟨a, cap, rfl, -, -⟩ := hl.out
  have he' : e = .returned (.tuple #[.agg #[.int .i64 14, .int .i64 0, .int .i64 0, .int .i64 0, .slice a 2 cap], .int .i64 0, .int .i64 0]) := he
  clear he
  subst he'
  have hT1 := (HT.out.keep hB1).up hB1.size
  have hba := al w1 (.cells #[.int .i64 14, .int .i64 0, .int .i64 0, .int .i64 0, .slice a 2 cap] 26)
  have HT2 := Lib.hid ((hT1.keep hba).up hba.size)
  have HN2 := Lib.hid (show (w1.alloc (.cells #[.int .i64 14, .int .i64 0, .int .i64 0, .int .i64 0, .slice a 2 cap] 26)).heap[w1.heap.size]? = some (.cells #[.int .i64 14, .int .i64 0, .int .i64 0, .int .i64 0, .slice a 2 cap] 26) from alloc_new _ _)
  have HL2 := Lib.hid (hl.later hba)
  have HB2 := Lib.hid (hB1.trans (hba.mono hB1.size))
  have hs1 : w1.heap.size < (w1.alloc (.cells #[.int .i64 14, .int .i64 0, .int .i64 0, .int .i64 0, .slice a 2 cap] 26)).heap.size := by simp
  clear hB1 hl hfi hT1 hba
  go_upto_region 2 with fail
  obtain ⟨W, hW⟩ : ∃ W, W = w1.alloc (.cells #[.int .i64 14, .int .i64 0, .int .i64 0, .int .i64 0, .slice a 2 cap] 26) := ⟨_, rfl⟩
  rw [← hW] at HT2 HN2 HL2 HB2 hs1
  rw [← hW]
  clear hW
  have H2 := Lib.hid (read_any ⟨#[40, 76, 97, 109, 32, 120, 32, 40, 115, 111, 114, 116, 32, 48, 41, 32, 121, 41]⟩ [] (.slice none 0 0) 0 0 W (by decide) HT2.out (nil_texts _ _) (by decide) (fun y hy => by cases hy))
  rw [show readB (ByteArray.mk #[40, 76, 97, 109, 32, 120, 32, 40, 115, 111, 114, 116, 32, 48, 41, 32, 121, 41]).data.toList [] 0 0 = .error (2, 16) from wk2] at H2
  go_wp2_with fail
  refine H2.out.mono ?_
  intro e w2 hg
  obtain ⟨hB, hg⟩ := hg
  obtain rfl := hg
  have hba := al w2 (.cells #[.int .i64 0, .int .i64 0, .int .i64 0, .int .i64 0, .slice none 0 0] 26)
  have hW3 := hB.trans (hba.mono hB.size)
  have HT3 := Lib.hid ((HT2.out.keep hW3).up hW3.size)
  have HB3 := Lib.hid (HB2.out.trans (hW3.mono HB2.out.size))
  have hn3 := (hW3.block _ hs1).trans HN2.out
  obtain ⟨⟨q0, q1, q2, q3, q4⟩, -, hGl⟩ := cells5_of hn3
  obtain ⟨g, rfl, hcap, hgl, k1, k2⟩ := kids2_cells (HL2.out.later hW3)
  clear hB hba hn3 H1 H2 HN2 HL2
  go_upto_region 3 with fail
  obtain ⟨V, hV⟩ : ∃ V, V = w2.alloc (.cells #[.int .i64 0, .int .i64 0, .int .i64 0, .int .i64 0, .slice none 0 0] 26) := ⟨_, rfl⟩
  rw [← hV] at HT3 HB3 q0 q1 q2 q3 q4 hGl hgl k1 k2
  rw [← hV]
  clear hV hW3
  have HS := Lib.hid (symbol_any V.heap.size [99, 114, 101, 102, 108] V HT3.out)
  have HN := Lib.hid (nameR_any V.heap.size 1 V HT3.out)
  rw [symN_crefl] at HS
  rw [nameB_one] at HN
  go_wp2_with fail
  refine HS.out.mono ?_
  rintro e w4 ⟨rfl, rfl⟩
  go_wp2_with fail
  refine HN.out.mono ?_
  rintro e w4 ⟨rfl, rfl⟩
  go_wp2
  go_ret
  exact ⟨rfl, HB3.out⟩
end Go.Proofs.YtllkackipdcekaaDoor

namespace Go.Proofs.YtllkackipdcekaaDoor
open Go.RowKit Go.Lib

/-- The library's table stays as it is whatever is made. -/
def Tab (w : World) : Prop := TabBelow Tryd.prog w.heap.size w "internal/strconv.uint64pow10" .u64 pow10Tab
theorem Tab.later {w w' : World} (h : Tab w) (hb : Below w.heap.size w w') : Tab w' := fun _ h2 => TabBelow.here (TabBelow.on h (hb.trans (h2.mono hb.size)))
/-- A variable that holds just these texts. -/
def StrIs (w : World) (name : String) (ss : List (List UInt8)) : Prop := w.var? Tryd.prog name = some (ss.map fun s => Value.string ⟨s.toArray⟩).toArray
theorem StrIs.cell {W : World} {name : String} {ss : List (List UInt8)} {g : Nat} (h : StrIs W name ss) (hg : Tryd.prog.globalNamed name = some g) (i : Nat) (hi : i < ss.length) : W.cell? ⟨g, i, none⟩ = some (.string ⟨(ss[i]).toArray⟩) := by
  have := World.var?_cell hg h i
  simpa [hi] using this
theorem StrIs.on {w w' : World} {name : String} {ss : List (List UInt8)} (h : StrIs w name ss) (hb : Below w.heap.size w w') : StrIs w' name ss := by
  unfold StrIs World.var? at *
  cases hg : Tryd.prog.globalNamed name with
  | none => simp [hg] at h
  | some g =>
    simp only [hg, Option.bind_some] at h ⊢
    have hlt : g < w.heap.size := by
      rcases Nat.lt_or_ge g w.heap.size with h' | h'
      · exact h'
      · rw [Array.getElem?_eq_none h'] at h; simp at h
    rw [hb.block g hlt]
    exact h
/-- What a text of a term is written from. -/
structure WTab (w : World) : Prop where
  pow : Tab w
  syms : StrIs w "tranship/read.symbols" symsW
  heads : StrIs w "tranship/write.heads" headsW
theorem WTab.later {w w' : World} (h : WTab w) (hb : Below w.heap.size w w') : WTab w' := ⟨h.pow.later hb, h.syms.on hb, h.heads.on hb⟩
end Go.Proofs.YtllkackipdcekaaDoor

namespace Go.Proofs.YtllkackipdcekaaDoor
open Go.RowKit

/-- Five cells of one block are written. -/
abbrev five (w : World) (g : Nat) (v0 v1 v2 v3 v4 : Value) : World := ((((w.setCell ⟨g, 0, none⟩ v0).setCell ⟨g, 1, none⟩ v1).setCell ⟨g, 2, none⟩ v2).setCell ⟨g, 3, none⟩ v3).setCell ⟨g, 4, none⟩ v4
theorem below_five {B : Nat} {w w1 : World} (h : Below B w w1) {g : Nat} (hg : B ≤ g) (v0 v1 v2 v3 v4 : Value) : Below B w (five w1 g v0 v1 v2 v3 v4) :=
  ((((h.setCell hg _).setCell hg _).setCell hg _).setCell hg _).setCell hg _
/-- What a call hands back that makes a term, or the zero term and false. -/
def GivesZ (r : Option Tm) (w : World) (e : Ending) (w' : World) : Prop := Below w.heap.size w w' ∧
  ((∃ u s', r = some u ∧ e = .returned (.tuple #[tv u s', .bool true]) ∧ LiesP w' (Own w.heap.size w') u.kids s') ∨ (r = none ∧ e = .returned (.tuple #[tv Tm.zero (.slice none 0 0), .bool false])))
theorem GivesZ.none {w w' : World} {e : Ending} (h : GivesZ none w e w') : e = .returned (.tuple #[tv Tm.zero (.slice none 0 0), .bool false]) ∧ Below w.heap.size w w' := by
  obtain ⟨hb, ⟨u, s', h1, -⟩ | ⟨-, h2⟩⟩ := h
  · cases h1
  · exact ⟨h2, hb⟩
theorem GivesZ.some {u : Tm} {w w' : World} {e : Ending} (h : GivesZ (some u) w e w') : GivesSome u w e w' := by
  obtain ⟨hb, ⟨u', s', h1, h2, h3⟩ | ⟨h1, -⟩⟩ := h
  · cases h1; exact ⟨⟨s', h2, h3⟩, hb⟩
  · cases h1
end Go.Proofs.YtllkackipdcekaaDoor

namespace Go.Proofs.YtllkackipdcekaaDoor
open Go.RowKit Go.Maps Go.ChangeShapes

theorem tmod3 (m : Nat) : (m : Int).tmod 3 = ((m % 3 : Nat) : Int) := by
  first
  | rfl
  | omega
  | (rw [Int.tmod_eq_emod_of_nonneg (by omega)]; omega)
/-- A row of texts newly made. -/
theorem texts2 (w : World) : TxLies (w.alloc (.cells #[.string ⟨#[122]⟩, .string ⟨#[99]⟩] 9)).heap.size (w.alloc (.cells #[.string ⟨#[122]⟩, .string ⟨#[99]⟩] 9)) [[122], [99]] (.slice (some ⟨w.heap.size, 0, none⟩) 2 2) :=
  ⟨_, 2, rfl, by decide, by unfold maxLen; omega, fun q hq => ⟨_, 0, rfl, by simp, by
    rw [Lib.cell_of_heap (alloc_new w _)]
    match q, hq with
    | 0, _ => rfl
    | 1, _ => rfl⟩⟩
theorem texts4 (w : World) : TxLies (w.alloc (.cells #[.string ⟨#[99]⟩, .string ⟨#[122]⟩, .string ⟨#[99]⟩, .string ⟨#[121]⟩] 9)).heap.size (w.alloc (.cells #[.string ⟨#[99]⟩, .string ⟨#[122]⟩, .string ⟨#[99]⟩, .string ⟨#[121]⟩] 9)) [[99], [122], [99], [121]] (.slice (some ⟨w.heap.size, 0, none⟩) 4 4) :=
  ⟨_, 4, rfl, by decide, by unfold maxLen; omega, fun q hq => ⟨_, 0, rfl, by simp, by
    rw [Lib.cell_of_heap (alloc_new w _)]
    match q, hq with
    | 0, _ => rfl
    | 1, _ => rfl
    | 2, _ => rfl
    | 3, _ => rfl⟩⟩
/-- The box of the term that is gone through. -/
structure BoxI (v : World) (x : Tm) (s : Value) (w' : World) : Prop where
  under : Below v.heap.size v w'
  box : w'.heap[v.heap.size]? = some (boxOf x s)
theorem BoxI.put {v w1 : World} {x : Tm} {s : Value} (h : BoxI v x s w1) (y : Tm) (sy : Value) : BoxI v y sy (five w1 v.heap.size (.int .i64 y.k) (.int .i64 y.i) (.int .i64 y.j) (.int .i64 y.n) sy) :=
  ⟨below_five h.under (Nat.le_refl _) _ _ _ _ _, five_set h.box⟩
theorem nest_sub {n : Nat} {t : Tm} : nestI (n + 1) t = .mk 14 0 0 0 [sort0, nestI n t] := nest_out n t
set_option maxHeartbeats 4000000 in
set_option maxRecDepth 20000 in
theorem readInner_in (N K : Nat) (hN1 : 1 ≤ N) (hN : N ≤ 20) (hK : K < N) (w : World) (hT : TabsR w.heap.size w) : Calls Tryd.prog 6 #[.int .i64 N, .int .i64 K] w fun e w' => e = .returned (.bool true) ∧ Below w.heap.size w w' := by
  have HT := Lib.hid hT
  have HRI := Lib.hid (readIn N K hK)
  have HRD := Lib.hid (fun (y : ByteArray) (l : Names) (v : Value) (w' : World) (h1 : y.size ≤ 3000) (hb : Below w.heap.size w w') (hN : TxLies w'.heap.size w' l v) (hl : l.length ≤ 4) (hm : ∀ y ∈ l, y.length ≤ 10) => read_any y l v 0 0 w' (by omega) ((hT.keep hb).up hb.size) hN (by omega) (fun y hy => by have := hm y hy; omega))
  have HWK := Lib.hid (fun (w' : World) (hb : Below w.heap.size w w') => wakes9_any w' ((hT.keep hb).up hb.size))
  clear hT
  have hn0 : ¬ (N : Int) < 1 := by omega
  have hn1 : ¬ 20 < (N : Int) := by omega
  have hk0 : ¬ (K : Int) < 0 := by omega
  have hk1 : ¬ (N : Int) ≤ (K : Int) := by omega
  have hcell0 : ∀ m : Nat, (w.alloc (.cells #[.string ⟨#[97]⟩, .string ⟨#[98]⟩, .string ⟨#[99]⟩] 9)).cell? ⟨w.heap.size, m % 3, none⟩ = some (.string ⟨(nmI m).toArray⟩) := fun m => by
    rw [Lib.cell_of_heap (alloc_new w _)]
    rcases nmI_cases m with ⟨a, b⟩ | ⟨a, b⟩ | ⟨a, b⟩ <;> rw [a, b] <;> rfl
  have hbW := al w (.cells #[.string ⟨#[97]⟩, .string ⟨#[98]⟩, .string ⟨#[99]⟩] 9)
  go_enter Tryd.func6, Tryd.ntmps6
  go_upto_region 4 with fail
  obtain ⟨W, hW⟩ : ∃ W, W = w.alloc (.cells #[.string ⟨#[97]⟩, .string ⟨#[98]⟩, .string ⟨#[99]⟩] 9) := ⟨_, rfl⟩
  rw [← hW] at hcell0 hbW
  rw [← hW]
  have HCE := Lib.hid hcell0
  have HBW := Lib.hid hbW
  have hszW : w.heap.size < W.heap.size := by rw [hW]; simp
  clear hW hcell0 hbW
  go_wp2_with fail
  go_loopw [6, 7, 8] (fun x y q wr => ∃ (m : Nat) (S R : ByteArray), m ≤ N ∧ x = .string S ∧ y = .string R ∧ q = .int .i64 m ∧ S.size ≤ 16 * m ∧ R.size ≤ m ∧ Hid (S.data.toList = preT m) ∧ Hid (R.data.toList = List.replicate m 41) ∧ wr = W) (fun _ _ q _ => N - (intOf q).toNat)
  case atStart => exact ⟨0, _, _, Nat.zero_le _, rfl, rfl, rfl, by decide, by decide, rfl, rfl, (by first | rfl | trivial)⟩
  case round =>
    obtain ⟨m, S, R, hm, rfl, rfl, rfl, hS, hR, hSL, hRL, rfl⟩ := hrel
    by_cases hlt : m < N
    · have hlt' : (m : Int) < (N : Int) := by omega
      have hm9 : m ≤ 20 := by omega
      obtain ⟨q, hq, hqe⟩ : ∃ q : Nat, q = m % 3 ∧ (m : Int).tmod 3 = (q : Int) := ⟨_, rfl, tmod3 m⟩
      have hq3 : q < 3 := by omega
      have hc := HCE.out m
      rw [← hq] at hc
      obtain ⟨C, hC⟩ : ∃ C : ByteArray, (⟨(nmI m).toArray⟩ : ByteArray) = C := ⟨_, rfl⟩
      have hCs : C.size ≤ 1 := by rw [← hC]; show (nmI m).toArray.size ≤ 1; rw [List.size_toArray, nmI_len]; exact Nat.le_refl _
      rw [hC] at hc
      have HP := Lib.hid (show (S ++ ⟨#[40, 76, 97, 109, 32]⟩ ++ C ++ ⟨#[32, 40, 115, 111, 114, 116, 32, 48, 41, 32]⟩).data.toList = preT (m + 1) by
        show _ = preT m ++ ([40, 76, 97, 109, 32] ++ nmI m ++ [32, 40, 115, 111, 114, 116, 32, 48, 41, 32])
        rw [← hSL.out, ← hC]
        simp)
      have HQ := Lib.hid (show (R ++ ⟨#[41]⟩).data.toList = List.replicate (m + 1) 41 by
        rw [List.replicate_succ', ← hRL.out]
        simp)
      have HZ := Lib.hid (show (S ++ ⟨#[40, 76, 97, 109, 32]⟩ ++ C ++ ⟨#[32, 40, 115, 111, 114, 116, 32, 48, 41, 32]⟩).size ≤ 16 * (m + 1) by
        rw [ByteArray.size_append, ByteArray.size_append, ByteArray.size_append]
        show S.size + 5 + C.size + 10 ≤ _
        omega)
      have HY := Lib.hid (show (R ++ ⟨#[41]⟩).size ≤ m + 1 by
        rw [ByteArray.size_append]
        show R.size + 1 ≤ _
        omega)
      have hw1 : IntKind.i64.wrap ((m : Int) + 1) = (m : Int) + 1 := IntWalk.i64_in _ (by omega)
      clear hSL hRL hC hq HRD HRI HWK HT HCE
      go_wp2_with fail
      go_roundw
      case rel => exact ⟨m + 1, _, _, hlt, rfl, rfl, by go_num, HZ.out, HY.out, HP, HQ, (by first | rfl | trivial)⟩
      case measure => simp [intOf]; omega
    · obtain rfl : m = N := by omega
      obtain ⟨q, hq, hqe⟩ : ∃ q : Nat, q = K % 3 ∧ (K : Int).tmod 3 = (q : Int) := ⟨_, rfl, tmod3 K⟩
      have hq3 : q < 3 := by omega
      have hc := HCE.out K
      rw [← hq] at hc
      obtain ⟨C, hC⟩ : ∃ C : ByteArray, (⟨(nmI K).toArray⟩ : ByteArray) = C := ⟨_, rfl⟩
      have hCs : C.size ≤ 1 := by rw [← hC]; show (nmI K).toArray.size ≤ 1; rw [List.size_toArray, nmI_len]; exact Nat.le_refl _
      rw [hC] at hc
      obtain ⟨c, hcc⟩ : ∃ c : ByteArray, S ++ C ++ R = c := ⟨_, rfl⟩
      have hcd : c.data.toList = innT m K := by rw [← hcc, ← hC]; unfold innT; rw [← hSL.out, ← hRL.out]; simp
      have hcs : c.size ≤ 3000 := by rw [← hcc, ByteArray.size_append, ByteArray.size_append]; omega
      have hb2 := al wr (.cells #[.string ⟨#[122]⟩, .string ⟨#[99]⟩] 9)
      have HC := Lib.hid (HRD.out c [[122], [99]] _ (wr.alloc (.cells #[.string ⟨#[122]⟩, .string ⟨#[99]⟩] 9)) hcs (HBW.out.trans (hb2.mono HBW.out.size)) (texts2 wr) (by decide) (by decide))
      rw [hcd, HRI.out, ← hcc] at HC
      have HB2 := Lib.hid (HBW.out.trans (hb2.mono HBW.out.size))
      have hS9 : S.size ≤ 320 := by omega
      have hR9 : R.size ≤ 20 := by omega
      clear hcd hcs hcc hSL hRL hC hq HRI HCE hb2 HBW
      go_wp2_with fail
      refine HC.out.mono ?_
      rintro e w2 ⟨hB, sv, rfl, hl, hfi⟩
      have HB3 := Lib.hid (HB2.out.trans (hB.mono HB2.out.size))
      have HL := Lib.hid hl.lies
      have hlv := hl.lies
      generalize hX : nestI m (.mk 2 (wantI m K) 0 0 []) = X at hl hlv HL
      obtain ⟨au, cu, rfl, -, -⟩ := hl.out
      have hbx : BoxI w2 X (.slice au X.kids.length cu) (w2.alloc (.cells #[.int .i64 X.k, .int .i64 X.i, .int .i64 X.j, .int .i64 X.n, .slice au X.kids.length cu] 26)) := ⟨al w2 _, alloc_new _ _⟩
      unfold tv
      clear hB hl hfi HC HB2 hc hqe hlv
      go_upto_region 11 with fail
      obtain ⟨V, hV⟩ : ∃ V, V = w2.alloc (.cells #[.int .i64 X.k, .int .i64 X.i, .int .i64 X.j, .int .i64 X.n, .slice au X.kids.length cu] 26) := ⟨_, rfl⟩
      rw [← hV] at hbx
      rw [← hV]
      have HBX := Lib.hid hbx
      have HX := Lib.hid hX
      clear hV hbx hX
      have hwm : IntKind.i64.wrap ((m : Int) - 1) = (m : Int) - 1 := IntWalk.i64_in _ (by omega)
      go_wp2_with fail
      go_loopw [12, 13] (fun x q wz => ∃ (p c : Nat), p ≤ m ∧ K < p ∧ x = .int .i64 c ∧ q = .int .i64 ((p : Int) - 1) ∧ c + wantI p K = wantI m K ∧ c + p = m ∧ wz = V) (fun x _ _ => m - (intOf x).toNat)
      case atStart => exact ⟨m, 0, Nat.le_refl _, hK, rfl, rfl, by omega, by omega, (by first | rfl | trivial)⟩
      case round =>
        obtain ⟨p, c, hp, hpk, rfl, rfl, hwant, hcp, rfl⟩ := hrel
        obtain ⟨p, rfl⟩ : ∃ p', p = p' + 1 := ⟨p - 1, by omega⟩
        have e1 : (((p + 1 : Nat) : Int) - 1) = (p : Int) := by omega
        rw [e1]
        have hge : (0 : Int) ≤ (p : Int) := by omega
        have hpe := tmod3 p
        have hke := tmod3 K
        by_cases hs : p % 3 = K % 3
        · have hne : ((p : Int) % 3 != (K : Int) % 3) = false := by
            have : (p : Int) % 3 = (K : Int) % 3 := by omega
            rw [this]; simp
          have hcw : c = wantI m K := by
            have h2 : c + (if p % 3 = K % 3 then 0 else wantI p K + 1) = wantI m K := hwant
            rw [if_pos hs] at h2; omega
          subst hcw
          clear hpe hke hwant hs hge
          go_wp2_with fail
          go_loopw [14] (fun x wq => ∃ (q r : Nat) (sx : Value), q + r = m ∧ x = .int .i64 q ∧ Hid (BoxI w2 (nestI r (.mk 2 (wantI m K) 0 0 [])) sx wq) ∧ Hid (Lies w2 (nestI r (.mk 2 (wantI m K) 0 0 [])).kids sx)) (fun x _ => m - (intOf x).toNat)
          case atStart => exact ⟨0, m, _, by omega, rfl, by rw [HX.out]; exact HBX.out, by rw [HX.out]; exact HL.out⟩
          case round =>
            clear HX HBX HL
            obtain ⟨q, r, sx, hqr, rfl, hbox, hlx⟩ := hrel
            cases r with
            | succ r =>
              have hq2 : (q : Int) < (m : Int) := by omega
              have hbox1 : BoxI w2 (.mk 14 0 0 0 [sort0, nestI r (.mk 2 (wantI m K) 0 0 [])]) sx wr := by rw [← nest_sub]; exact hbox.out
              have hlx1 : Lies w2 [sort0, nestI r (.mk 2 (wantI m K) 0 0 [])] sx := by have := hlx.out; rw [nest_sub] at this; exact this
              generalize hy : nestI r (.mk 2 (wantI m K) 0 0 []) = y at hbox1 hlx1
              obtain ⟨ax, cx, Sx, rfl, hcx, hmaxx, -, hn, hkk⟩ := hlx1.out
              unfold maxLen at hmaxx
              obtain ⟨d0, d1, d2, d3, d4⟩ := five_cells hbox1.box
              obtain ⟨e0, e1, e2, e3, e4⟩ := five_free hbox1.box
              have h1 : 1 < [sort0, y].length := by simp
              obtain ⟨b', o, rfl, hx⟩ := hn 1 h1
              have hly := hkk 1 h1
              have hx' : Node w2 b' (o + 5) y (Sx 1) := hx
              have hly' : Lies w2 y.kids (Sx 1) := hly
              obtain ⟨ay, cy, Sy, hSy, -⟩ := hly'.out
              rw [hSy] at hly' hx'
              obtain ⟨c0, c1, c2, c3, c4⟩ : Node wr b' (o + 5) y (.slice ay y.kids.length cy) := hx'.below hbox1.under hx'.lt
              have HY := Lib.hid hly'
              have HEQ := Lib.hid hy
              have HP := Lib.hid (hbox1.put y (.slice ay y.kids.length cy))
              have hw1 : IntKind.i64.wrap ((q : Int) + 1) = (q : Int) + 1 := IntWalk.i64_in _ (by omega)
              clear hbox hlx hbox1 hlx1 hn hkk hx hly hSy hx' hly' hy HB3 HT HWK HRD
              go_wp2
              go_roundw
              case rel => exact ⟨q + 1, r, _, by omega, by go_num, by rw [HEQ.out]; exact HP.out, by rw [HEQ.out]; exact HY.out⟩
              case measure => simp [intOf]; omega
            | zero =>
              obtain rfl : q = m := by omega
              have hb0 := hbox.out.box
              have HBQ := Lib.hid (HB3.out.trans (hbox.out.under.mono HB3.out.size))
              have hltb := (Array.getElem?_eq_some_iff.1 hb0).1
              have hnlt : ¬ (q : Int) < (q : Int) := by omega
              have hl0 := hlx.out
              obtain ⟨ax, cx, Sx, rfl, -⟩ := hl0.out
              have hb1 : wr.heap[w2.heap.size]? = some (.cells #[.int .i64 2, .int .i64 (wantI q K), .int .i64 0, .int .i64 0, .slice ax 0 cx] 26) := hb0
              have hb4 := al wr (.cells #[.string ⟨#[99]⟩, .string ⟨#[122]⟩, .string ⟨#[99]⟩, .string ⟨#[121]⟩] 9)
              have HC2 := Lib.hid (HRD.out ⟨#[99]⟩ [[99], [122], [99], [121]] _ (wr.alloc (.cells #[.string ⟨#[99]⟩, .string ⟨#[122]⟩, .string ⟨#[99]⟩, .string ⟨#[121]⟩] 9)) (by decide) (HBQ.out.trans (hb4.mono HBQ.out.size)) (texts4 wr) (by decide) (by decide))
              obtain ⟨t4, ht4⟩ : ∃ t4, Tm.mk 2 1 0 0 [] = t4 := ⟨_, rfl⟩
              rw [show readB (ByteArray.mk #[99]).data.toList [[99], [122], [99], [121]] 0 0 = .ok (.mk 2 1 0 0 []) from readC, ht4] at HC2
              have HB4 := Lib.hid (HBQ.out.trans (hb4.mono HBQ.out.size))
              have HBL := Lib.hid ((hb4.block _ hltb).trans hb1)
              have hlt4 : w2.heap.size < (wr.alloc (.cells #[.string ⟨#[99]⟩, .string ⟨#[122]⟩, .string ⟨#[99]⟩, .string ⟨#[121]⟩] 9)).heap.size := by simp; omega
              clear hbox hlx hb0 hb1 hb4 hl0 HBQ HRD HB3 HT
              go_wp2_with fail
              refine HC2.out.mono ?_
              rintro e w4 ⟨hB, s4, rfl, hl4, hf4⟩
              obtain ⟨a4, c4, rfl, -, -⟩ := hl4.out
              have hba := al w4 (.cells #[.int .i64 t4.k, .int .i64 t4.i, .int .i64 t4.j, .int .i64 t4.n, .slice a4 t4.kids.length c4] 26)
              have hW4 := hB.trans (hba.mono hB.size)
              have HB5 := Lib.hid (HB4.out.trans (hW4.mono HB4.out.size))
              have hn5 := (hW4.block _ hlt4).trans HBL.out
              have ho5 := alloc_new w4 (.cells #[.int .i64 t4.k, .int .i64 t4.i, .int .i64 t4.j, .int .i64 t4.n, .slice a4 t4.kids.length c4] 26)
              clear hB hba hW4 HC2 hl4 hf4 HBL HB4 hlt4
              unfold tv
              go_upto_region 21 with fail
              obtain ⟨Z, hZ⟩ : ∃ Z, Z = w4.alloc (.cells #[.int .i64 t4.k, .int .i64 t4.i, .int .i64 t4.j, .int .i64 t4.n, .slice a4 t4.kids.length c4] 26) := ⟨_, rfl⟩
              rw [← hZ] at HB5 hn5 ho5
              rw [← hZ]
              clear hZ
              obtain ⟨⟨q0, q1, q2, q3, q4⟩, -, -⟩ := cells5_of hn5
              obtain ⟨⟨p0, p1, p2, p3, p4⟩, -, -⟩ := cells5_of ho5
              rw [show t4.k = 2 by rw [← ht4]; rfl] at p0
              rw [show t4.i = 1 by rw [← ht4]; rfl] at p1
              clear hn5 ho5
              go_wp2_with fail
              refine (HWK.out Z HB5.out).mono ?_
              rintro e w5 ⟨rfl, hb5⟩
              have HB6 := Lib.hid (HB5.out.trans (hb5.mono HB5.out.size))
              clear hb5 q0 q1 q2 q3 q4 p0 p1 p2 p3 p4
              go_wp2
              go_ret
              exact ⟨rfl, HB6.out⟩
        · have hne : ((p : Int) % 3 != (K : Int) % 3) = true := by
            have : ¬ (p : Int) % 3 = (K : Int) % 3 := by omega
            simpa using this
          have hpk2 : K < p := by
            rcases Nat.lt_or_ge K p with g | g
            · exact g
            · exact absurd (by rw [show p = K by omega]) hs
          have hw1 : IntKind.i64.wrap ((c : Int) + 1) = (c : Int) + 1 := IntWalk.i64_in _ (by omega)
          have hw2 : IntKind.i64.wrap ((p : Int) - 1) = (p : Int) - 1 := IntWalk.i64_in _ (by omega)
          have hwant2 : c + 1 + wantI p K = wantI m K := by
            have h2 : c + (if p % 3 = K % 3 then 0 else wantI p K + 1) = wantI m K := hwant
            rw [if_neg hs] at h2; omega
          clear hpe hke hwant hs HRD HT HB3 HL HBX HX HWK
          go_wp2_with fail
          go_roundw
          case rel => exact ⟨p, c + 1, by omega, hpk2, by go_num, rfl, hwant2, by omega, (by first | rfl | trivial)⟩
          case measure => simp [intOf]; omega
set_option maxHeartbeats 400000 in
theorem readInner_any (n k : Int) (w : World) (hT : TabsR w.heap.size w) : Calls Tryd.prog 6 #[.int .i64 n, .int .i64 k] w fun e w' => e = .returned (.bool true) ∧ Below w.heap.size w w' := by
  by_cases cn1 : n < 1
  · clear hT
    go_enter Tryd.func6, Tryd.ntmps6
    go_wp2
    go_ret
    exact ⟨rfl, Below.refl _ _⟩
  by_cases c20n : 20 < n
  · clear hT
    go_enter Tryd.func6, Tryd.ntmps6
    go_wp2
    go_ret
    exact ⟨rfl, Below.refl _ _⟩
  by_cases ck0 : k < 0
  · clear hT
    go_enter Tryd.func6, Tryd.ntmps6
    go_wp2
    go_ret
    exact ⟨rfl, Below.refl _ _⟩
  by_cases cnk : n ≤ k
  · clear hT
    go_enter Tryd.func6, Tryd.ntmps6
    go_wp2
    go_ret
    exact ⟨rfl, Below.refl _ _⟩
  obtain ⟨N, rfl⟩ : ∃ m : Nat, n = m := ⟨n.toNat, by omega⟩
  obtain ⟨K, rfl⟩ : ∃ m : Nat, k = m := ⟨k.toNat, by omega⟩
  exact readInner_in N K (by omega) (by omega) (by omega) w hT
end Go.Proofs.YtllkackipdcekaaDoor

namespace Go.Proofs.YtllkackipdcekaaDoor
open Go.ChangeShapes Go.WideShapes Go.ChangeAt Go.RowKit

theorem own : ownKnob Tryd.prog.godebug = none := by kernel_rfl
instance instOpenTm : Inhabited (Tm × Value) := ⟨(.mk 0 0 0 0 [], .nilIface)⟩

end Go.Proofs.YtllkackipdcekaaDoor

namespace Go.Proofs.YtllkackipdcekaaDoor
theorem lt_of_cell {w : World} {b i : Nat} {v : Value} (h : w.cell? ⟨b, i, none⟩ = some v) : b < w.heap.size := by
  rcases Nat.lt_or_ge b w.heap.size with h1 | h1
  · exact h1
  · exfalso
    simp [World.cell?, Array.getElem?_eq_none h1] at h
open Go.ChangeShapes Go.WideShapes Go.ChangeAt Go.WideMaps Go.WideElems Go.RowKit

def laidT : List (String × DataW Unit) := Rows.readSymbolsRow.laid
theorem door_met (os : Os) (args : Array Value) : laidMetH Tryd.prog laidT ((World.doorLaid Tryd.prog 400 os).forCall (fun _ _ => 0) ⟨#[], args, []⟩).memory :=
  laidMetH_of_parts3 (fuel := 8) (laidMet_of_run' 8 (by kernel_rfl) (by kernel_rfl)) (by kernel_rfl) (by kernel_rfl)
/-- A table of texts as a row lists it. -/
def strData {H : Type} (ss : List (List UInt8)) : DataW H := .agg (ss.map fun s => .lit (.string s))
theorem cells_of_strs {H : Type} {enc : TypeId × Value → H} {P : Program} {w : World} {base : Nat} {sp : Nat → Bool} {held : Bool} {fuel : Nat} {t e : TypeId} {n : Nat} {cs : List Value} {zs : List (List UInt8)} {p : List MemPlace}
    (ht : P.underlying t = some (.array n e)) (he : P.underlying e = some .string) (hce : P.cellsOf e = 1) (hct : P.cellsOf t = n)
    (h : DataW.trod enc P w base sp held fuel t cs = some (strData zs, p)) : cs = zs.map fun z => Value.string ⟨z.toArray⟩ := by
  cases fuel with
  | zero => simp [DataW.trod] at h
  | succ fuel =>
    simp only [DataW.trod, ht, hce, hct, Nat.mul_one] at h
    split at h
    · rename_i hl
      obtain ⟨xs, hm, hx⟩ := Option.map_eq_some_iff.1 h
      have hxs : xs.map (·.1) = zs.map fun z => (DataW.lit (.string z) : DataW H) := by
        have := congrArg Prod.fst hx
        simpa [strData] using this
      have hxl : xs.length = n := by simpa using Lib.mapM_length hm
      have hzl : zs.length = n := by
        have := congrArg List.length hxs
        simp at this
        omega
      apply List.ext_getElem?
      intro i
      by_cases hi : i < n
      · obtain ⟨b, hb, hf⟩ := Lib.mapM_at hm i i (by simp [hi])
        obtain ⟨z, hc, rfl, _⟩ := DataW.trod_string he hf
        have h1 : cs[i]? = some (.string z) := by
          have := congrArg (·[0]?) hc
          simpa [List.getElem?_take, List.getElem?_drop] using this
        have h2 : (xs.map (·.1))[i]? = some (DataW.lit (.string z.data.toList) : DataW H) := by simp [hb]
        rw [hxs] at h2
        simp only [List.getElem?_map, Option.map_eq_some_iff, DataW.lit.injEq, Lit.string.injEq] at h2
        obtain ⟨z', hz', e2⟩ := h2
        rw [h1, List.getElem?_map, hz']
        subst e2
        simp
      · rw [List.getElem?_eq_none (by omega), List.getElem?_eq_none (by simp; omega)]
    · cases h
theorem strIs_of_head {W : World} {name : String} {zs : List (List UInt8)} {rest : List (String × DataW Unit)} {g : Nat} {t e : TypeId} {n : Nat}
    (hg : Tryd.prog.globalNamed name = some g) (hty : (Tryd.prog.globals[g]?).map (·.type) = some t) (ht : Tryd.prog.underlying t = some (.array n e)) (he : Tryd.prog.underlying e = some .string) (hce : Tryd.prog.cellsOf e = 1) (hct : Tryd.prog.cellsOf t = n)
    (h : laidMet Tryd.prog ((name, strData zs) :: rest) W) : StrIs W name zs := by
  obtain ⟨ps, ⟨g', t', cs, fuel, p, q, hg', ht', hvar, hd, _, _⟩, _⟩ := h
  obtain rfl := Option.some.inj (hg.symm.trans hg')
  obtain rfl := Option.some.inj (hty.symm.trans ht')
  unfold StrIs
  rw [hvar, ← cells_of_strs ht he hce hct hd]
theorem syms_of_laid {W : World} (h : laidMetH Tryd.prog laidT W) : StrIs W "tranship/read.symbols" symsW := by
  have h2 := h.filter fun x => x.1 == "tranship/read.symbols"
  have e : (laidT.filter fun x => x.1 == "tranship/read.symbols") = [("tranship/read.symbols", strData symsW)] := by kernel_rfl
  rw [e] at h2
  rw [MakeChecks.laidMetH_plain _ _ _ (by kernel_rfl)] at h2
  exact strIs_of_head (g := 0) (t := 55) (e := 9) (n := 21) (by kernel_rfl) (by kernel_rfl) Tryd.underlying55 Tryd.underlying9 (by kernel_rfl) (by kernel_rfl) h2
theorem rheads_of_laid {W : World} (h : laidMetH Tryd.prog laidT W) : StrIs W "tranship/read.heads" (headsW.drop 3) := by
  have h2 := h.filter fun x => x.1 == "tranship/read.heads"
  have e : (laidT.filter fun x => x.1 == "tranship/read.heads") = [("tranship/read.heads", strData (headsW.drop 3))] := by kernel_rfl
  rw [e] at h2
  rw [MakeChecks.laidMetH_plain _ _ _ (by kernel_rfl)] at h2
  exact strIs_of_head (g := 2) (t := 55) (e := 9) (n := 21) (by kernel_rfl) (by kernel_rfl) Tryd.underlying55 Tryd.underlying9 (by kernel_rfl) (by kernel_rfl) h2
theorem tabsR_of_laid {W : World} (h : laidMetH Tryd.prog laidT W) : TabsR W.heap.size W := by
  have h1 := syms_of_laid h
  have h2 := rheads_of_laid h
  have c1 : ∀ k < 21, W.cell? ⟨0, k, none⟩ = some (.string ⟨((symsW[k]?).getD []).toArray⟩) := fun k hk => by
    have hl : k < symsW.length := hk
    rw [h1.cell (g := 0) (by kernel_rfl) k hl, List.getElem?_eq_getElem hl]; rfl
  have c2 : ∀ k < 21, W.cell? ⟨2, k, none⟩ = some (.string ⟨(((headsW.drop 3)[k]?).getD []).toArray⟩) := fun k hk => by
    have hl : k < (headsW.drop 3).length := hk
    rw [h2.cell (g := 2) (by kernel_rfl) k hl, List.getElem?_eq_getElem hl]; rfl
  exact ⟨⟨lt_of_cell (c2 0 (by decide)), lt_of_cell (c1 0 (by decide))⟩, c2, c1⟩
end Go.Proofs.YtllkackipdcekaaDoor

namespace Go.Proofs.YtllkackipdcekaaDoor
open Go.ChangeShapes Go.WideShapes

def code (l : List Nat) : List Char := l.map Char.ofNat
def joinN : List (List Nat) → List Nat
  | [] => []
  | [a] => a
  | a :: b :: r => a ++ 32 :: joinN (b :: r)

theorem words_one : ∀ a : List Nat, (a.all fun n => Char.ofNat n != Char.ofNat 32) = true → wordsSigns (code a) = [code a]
  | [], _ => rfl
  | n :: a, h => by
    simp only [List.all_cons, Bool.and_eq_true, bne_iff_ne] at h
    have ih := words_one a h.2
    show wordsSigns (Char.ofNat n :: code a) = _
    rw [wordsSigns]
    · rw [ih]; rfl
    · exact h.1
theorem words_more : ∀ (a : List Nat) (r : List Char), (a.all fun n => Char.ofNat n != Char.ofNat 32) = true → wordsSigns (code a ++ Char.ofNat 32 :: r) = code a :: wordsSigns r
  | [], r, _ => by
    show wordsSigns (Char.ofNat 32 :: r) = _
    rw [show Char.ofNat 32 = _ from rfl, wordsSigns]; rfl
  | n :: a, r, h => by
    simp only [List.all_cons, Bool.and_eq_true, bne_iff_ne] at h
    have ih := words_more a r h.2
    show wordsSigns (Char.ofNat n :: (code a ++ Char.ofNat 32 :: r)) = _
    rw [wordsSigns]
    · rw [ih]; rfl
    · exact h.1
theorem words_join : ∀ ws : List (List Nat), ws ≠ [] → (ws.all fun w => w.all fun n => Char.ofNat n != Char.ofNat 32) = true → wordsSigns (code (joinN ws)) = ws.map code
  | [], h, _ => absurd rfl h
  | [a], _, h => by simp only [List.all_cons, List.all_nil, Bool.and_true] at h; exact words_one a h
  | a :: b :: r, _, h => by
    have h' := h
    rw [List.all_cons, Bool.and_eq_true] at h'
    have ih := words_join (b :: r) (by simp) h'.2
    show wordsSigns (code (a ++ 32 :: joinN (b :: r))) = _
    rw [show code (a ++ 32 :: joinN (b :: r)) = code a ++ Char.ofNat 32 :: code (joinN (b :: r)) from by simp [code], words_more a _ h'.1, ih]; rfl

def cutWords : List (List Nat) := [[104, 97, 114, 110, 101, 115, 115],
  [56, 97, 48, 97, 97, 53, 100, 51, 57, 102, 101, 100, 56, 50, 99, 49, 49, 57, 97, 50, 101, 50, 97, 57, 97, 54, 98, 48, 101, 53, 98, 51, 50, 57, 49, 100, 50, 99, 56, 52, 48, 50, 99, 54, 102, 54, 101, 101, 51, 54, 50, 98, 49, 99, 48, 100, 56, 101, 56, 57, 49, 55, 102, 101],
  [99, 117, 116],
  [97, 116],
  [116, 114, 97, 110, 115, 104, 105, 112, 47, 116, 114, 97, 110, 115, 104, 105, 112, 108, 97, 119, 48, 57, 46, 82, 101, 97, 100, 69, 120, 97, 99, 116],
  [116, 114, 97, 110, 115, 104, 105, 112, 47, 116, 114, 97, 110, 115, 104, 105, 112, 108, 97, 119, 48, 57, 46, 82, 101, 97, 100, 82, 105, 103, 104, 116],
  [116, 114, 97, 110, 115, 104, 105, 112, 47, 116, 114, 97, 110, 115, 104, 105, 112, 108, 97, 119, 48, 57, 46, 82, 101, 97, 100, 66, 101, 104, 105, 110, 100],
  [116, 114, 97, 110, 115, 104, 105, 112, 47, 116, 114, 97, 110, 115, 104, 105, 112, 108, 97, 119, 48, 57, 46, 82, 101, 97, 100, 73, 110, 110, 101, 114],
  [116, 114, 97, 110, 115, 104, 105, 112, 47, 116, 114, 97, 110, 115, 104, 105, 112, 108, 97, 119, 48, 57, 46, 82, 101, 97, 100, 76, 101, 118, 101, 108, 115],
  [116, 114, 97, 110, 115, 104, 105, 112, 47, 116, 114, 97, 110, 115, 104, 105, 112, 108, 97, 119, 48, 57, 46, 82, 101, 97, 100, 83, 121, 109, 98, 111, 108, 115],
  [116, 114, 97, 110, 115, 104, 105, 112, 47, 116, 114, 97, 110, 115, 104, 105, 112, 108, 97, 119, 49, 48, 46, 87, 114, 105, 116, 101, 66, 97, 99, 107],
  [116, 114, 97, 110, 115, 104, 105, 112, 47, 116, 114, 97, 110, 115, 104, 105, 112, 108, 97, 119, 49, 48, 46, 87, 114, 105, 116, 101, 70, 105, 120, 101, 100]]

set_option maxRecDepth 100000 in
theorem cut_words : wordsSigns Tryd.prog.initOrder.toList = cutWords.map code := by
  have h : Tryd.prog.initOrder.toList = code (joinN cutWords) := by
    show (String.ofList (code (joinN cutWords))).toList = _
    exact String.toList_ofList
  rw [h]
  exact words_join cutWords (by simp [cutWords]) (by decide +kernel)

theorem cut_behind : behindMainWord (cutWords.map code) = code [99, 117, 116] :: cutWords.tail.tail.tail.map code := by kernel_rfl
theorem cut_lifts : stripLifts liftWords (code [99, 117, 116] :: cutWords.tail.tail.tail.map code) = ([], code [99, 117, 116] :: cutWords.tail.tail.tail.map code) := by kernel_rfl
theorem cut1 : (code [99, 117, 116] == "gc".toList) = false := by kernel_rfl
theorem cut2 : (code [99, 117, 116] == "spec".toList) = false := by kernel_rfl
theorem cut3 : (code [99, 117, 116] == "cut".toList) = true := by kernel_rfl
theorem cut_all : behindMainWord (wordsSigns Tryd.prog.initOrder.toList) = code [99, 117, 116] :: cutWords.tail.tail.tail.map code := by rw [cut_words, cut_behind]
theorem make_of (P : Program) {c : List Char} {rest : List (List Char)} (h : behindMainWord (wordsSigns P.initOrder.toList) = c :: rest) (h1 : (c == "gc".toList) = false) (h2 : (c == "spec".toList) = false) (h3 : (c == "cut".toList) = true) : P.make = some .cut := by
  unfold Program.make; rw [h]
  simp only [h1, h2, h3, Bool.or_self, Bool.false_eq_true, if_false, Bool.true_or, if_true]
theorem mayEnter_of (P : Program) {c : List Char} {rest : List (List Char)} (h : behindMainWord (wordsSigns P.initOrder.toList) = c :: rest) (h3 : ((stripLifts liftWords (c :: rest)).2.head? == some "cut".toList) = true)
    (h4 : (stripLifts liftWords (c :: rest)).1 = []) (h5 : P.laysLater = false) (h6 : P.bearsReflect = false) (h7 : P.doorFits [] = true) : P.mayEnter = true := by
  unfold Program.mayEnter; rw [h]
  refine Bool.or_eq_true_iff.2 (Or.inr ?_)
  rw [h3, h4, h5, h6, h7]; rfl
theorem row_make : Tryd.prog.make = some .cut := make_of Tryd.prog cut_all cut1 cut2 cut3
theorem row_mayEnter : Tryd.prog.mayEnter = true := mayEnter_of Tryd.prog cut_all (by rw [cut_lifts]; kernel_rfl) (by rw [cut_lifts]) (by kernel_rfl) (by kernel_rfl) (by kernel_rfl)
theorem row_lifts : Tryd.prog.liftsFinal = false := by unfold Program.liftsFinal Program.headLifts; rw [cut_all, cut_lifts]; kernel_rfl
end Go.Proofs.YtllkackipdcekaaDoor

namespace Go.Proofs.YtllkackipdcekaaDoor.lawReadInner
open Go.ChangeShapes Go.WideShapes Go.ChangeAt Go.RowKit Go.ChangeMaps

set_option maxRecDepth 100000 in
theorem lifted (os : Os) (started : os.Started) (H : Type) (enc : TypeId × Value → H) :
    ReturnsInHanded {} Tryd.checked os 6 .any (fun w args => (Rows.readInnerSpec.pre enc Tryd.prog Tryd.f6 [] false w args ∧ laidMetH Tryd.prog laidT w) ∧ sizedMet enc Tryd.prog Tryd.f6 (OpenSpec.ofChange Rows.readInnerSpec) false w args)
      (Rows.readInnerSpec.post enc Tryd.prog Tryd.f6 false true false false) := by
  refine returnsInHanded_of_change_and (C := Tryd.checked) (X := fun w _ => laidMetH Tryd.prog laidT w) (fun _ _ _ hh h => h.of_heap hh) own started (by kernel_rfl) Tryd.func6
    (ChangeSpec.witness_shaped (enc := enc) (C := Tryd.checked) (os := os) (X := fun w _ => laidMetH Tryd.prog laidT w) false (World.doorLaid Tryd.prog 400 os) #[.int .i64 0, .int .i64 0] 8 rfl (World.shaped_of_RefB (by kernel_rfl) (by kernel_rfl)) (by kernel_rfl) (by kernel_rfl) (by kernel_rfl) (door_met os _)) ?_
  intro W base args ds gs before hval0 hW _ _ hL _
  have hval : ∀ (j : Nat) t v, Tryd.f6.params[j]? = some t → args[j]? = some v → Value.okWide Tryd.prog W .any base t v := hval0
  have hW' := hW
  obtain ⟨p, q, hA0, hV, rfl, hfz, hnd⟩ := hW
  have hA : DataW.TrodAll enc Tryd.prog W 0 (fun _ => true) true Tryd.f6.params.toList args.toList ds p := hA0
  rw [Tryd.params6] at hA hval
  obtain ⟨v0, vs0, d0, ds0, p0, q0, hargs0, rfl, rfl, h0, r0⟩ := trodAll_cons hA
  obtain ⟨v1, vs1, d1, ds1, p1, q1, hargs1, rfl, rfl, h1, r1⟩ := trodAll_cons r0
  obtain ⟨rfl, rfl, rfl⟩ := trodAll_nil r1
  obtain rfl : args = #[v0, v1] := by cases args; simp_all
  obtain ⟨rfl, rfl⟩ := trodVars_none hV
  obtain ⟨a0, rfl, rfl, rfl, w0⟩ := open_int Tryd.underlying3 (hval 0 3 v0 rfl rfl) h0
  obtain ⟨a1, rfl, rfl, rfl, w1⟩ := open_int Tryd.underlying3 (hval 1 3 v1 rfl rfl) h1
  clear hA0 hval0
  simp only [List.append_nil] at hW'
  have hT := tabsR_of_laid hL
  refine (readInner_any a0 a1 W hT).mono fun e W' ⟨he, hb⟩ => ?_
  subst he
  exact ⟨_, rfl, _, _, _, [], _, [], hW', trodAll_cons_mk (shut_bool Tryd.underlying4 _) trodAll_mk0, (trodAll_cons_mk (shut_int Tryd.underlying3 w0) (trodAll_cons_mk (shut_int Tryd.underlying3 w1) trodAll_mk0)), rfl, hb.frame _, fun h => by cases h⟩

theorem closed : joinedFacts Tryd.prog 6 Tryd.f6 Rows.readInnerSpec Rows.readInnerRow = true := by
  unfold joinedFacts
  rw [row_mayEnter, row_lifts, row_make]
  kernel_rfl
theorem readInner_holds : Rows.ReadInnerSaid :=
  OpenClaim.holds_of_wide 6 Tryd.f6 rfl rfl rfl rfl rfl rfl rfl ⟨rfl, rfl, rfl, rfl, rfl⟩ rfl rfl rfl rfl rfl (by kernel_rfl) Tryd.func6 closed
    (of_decide_eq_true (by kernel_rfl)) (by unfold Func.isWrapper; first | (rw [if_pos (by decide +kernel)]; kernel_rfl) | (rw [if_neg (by decide +kernel)]; exact ⟨rfl, rfl⟩))
    (fun os started H enc _ => lifted os started H enc)
theorem proved : Rows.ReadInnerCardSaid :=
  Claim7.holds_tied_plain_at .later [] [.data, .data] true Rows.readInnerCard.stood.harness true
    readInner_holds (fun _ h => by cases h) (by kernel_rfl) (fun _ h => by cases h) readInner_row_tie rfl ⟨rfl, rfl⟩ (by kernel_rfl) rfl
    (fun f fn hf hfn => by
      obtain rfl : f = 6 := Option.some.inj ((show Tryd.prog.funcNamed "tranship/transhiplaw09.ReadInner" = some 6 by kernel_rfl).symm.trans hf) |>.symm
      obtain rfl : fn = Tryd.f6 := (Option.some.inj (Tryd.func6.symm.trans hfn)).symm
      exact ⟨by kernel_rfl, fun j t ht => by
        rw [Tryd.params6] at ht
        have hm : t ∈ [3, 3] := by simpa using Array.mem_of_getElem? ht
        have hall : ([3, 3].all fun u => !Tryd.prog.wantsStandIn u) = true := by kernel_rfl
        exact (show Tryd.prog.wantsStandIn t = false by simpa using List.all_eq_true.1 hall t hm)⟩)
    (by kernel_rfl)
#print axioms proved
end Go.Proofs.YtllkackipdcekaaDoor.lawReadInner
