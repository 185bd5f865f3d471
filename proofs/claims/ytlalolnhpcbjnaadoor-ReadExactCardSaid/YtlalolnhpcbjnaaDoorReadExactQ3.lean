/-
  Facts and contracts that the proof of ReadExact uses.
-/
import Derived.Lib.ItoaNum
import Derived.Lib.ItoaLen
import Derived.Test.YtlalolnhpcbjnaaDoorRows
import Derived.WalkKit
import Derived.Lib.Hide
import Derived.ProofKit
import Derived.LoopTactic
import Derived.Below
import Derived.IntWalk
import Derived.Lib.Strings
import Derived.Laws.Strings2
import Derived.Deep.AppendLies
import Derived.Laws.Rows
import Derived.OwnWalk
import Derived.KernelRfl
import Derived.Deep.RegionHeld3
import Derived.Lib.Builder
import Derived.WalkSmall
import Derived.Maps.GroupsBeside
import Derived.Maps.StringElems
import Derived.Laws.OwnMore
import Derived.Deep.RegionLaw
import Derived.Maps.AppendAt
import Derived.Deep.Cut
import Derived.Deep.DeepCutAuto
import Derived.Maps.OwnOps
import Derived.Maps.OwnSet
import Derived.Lib.MinMax
import Derived.Laws.IdiomCopy
import Derived.Deep.Slices
import Derived.Lib.QuietBelow
import Derived.StillTailTactics
import Derived.BigQuiet
import Derived.Deep.RegionWith
import Derived.OrdersHeld
import Derived.Laws.StructEq
import GoSem.Core.Float
import Derived.Laws.Cover2
import Derived.Laws.FloatArith
import Derived.Laws.Externs
import Derived.Deep.QuietTactic
import Derived.Deep.CutBlock
import Derived.Deep.LoopGhost
import Derived.Recover
import Derived.RegionTactic
import Derived.Defers
import Derived.OpenShut
import Derived.Carry
import Derived.SliceStrings
import Derived.Test.YtlalolnhpcbjnaaDoorShelf
import Derived.Lib.AppendIntMem
import Derived.Lib.LaidTab
import Derived.LaidMore
import Derived.LaidSub
import Derived.LaidHandle
import Derived.Stop.Joined
import Derived.JoinedOf
import Derived.Test.YtlalolnhpcbjnaaDoorCards
import Derived.Test.YtlalolnhpcbjnaaDoorTie
import Derived.SevenTiedAt
import Derived.ChangeMaps5
import Derived.Test.YtlalolnhpcbjnaaDoorReadExactQ2
namespace Go.Proofs.YtlalolnhpcbjnaaDoor
open Go.RowKit Go.Maps Go.ChangeShapes

/-- The state while a list is read: the result's block G, the box b of the term so far. -/
structure LSt (c : RC) (sl : Nat) (N : Names) (w0 : World) (b : Nat) (k i j n : Int) (s : Value) (q : List Tok) (w : World) : Prop where
  st : RSt c sl N q w
  fr : Fr c w0 w
  tab : TabsR c.B w
  zg : w.heap[w0.heap.size]? = some (zeroT)
  bx : w.heap[b]? = some (.cells #[.int .i64 k, .int .i64 i, .int .i64 j, .int .i64 n, s] 26 (0, 0))
theorem LSt.on {c : RC} {sl sl' : Nat} {N : Names} {w0 : World} {b : Nat} {k i j n : Int} {s : Value} {q q' : List Tok} {w w' : World} (h : LSt c sl N w0 b k i j n s q w) (hf : Fr c w w') (hs : RSt c sl' N q' w') : LSt c sl' N w0 b k i j n s q' w' :=
  ⟨hs, h.fr.trans hf, h.tab.keep hf.below, hf.kept _ _ _ _ h.zg (by decide) (by decide) (by decide), hf.kept _ _ _ _ h.bx (by decide) (by decide) (by decide)⟩
theorem LSt.turn {c : RC} {sl : Nat} {N : Names} {w0 : World} {b : Nat} {k i j n k' i' j' n' : Int} {s s' : Value} {q : List Tok} {w w' : World} (h : LSt c sl N w0 b k i j n s q w) (hlo : c.B ≤ w0.heap.size) (hb : w0.heap.size < b) (hg : w.grownBy w' (some b)) (hx : w'.heap[b]? = some (.cells #[.int .i64 k', .int .i64 i', .int .i64 j', .int .i64 n', s'] 26 (0, 0))) : LSt c sl N w0 b k' i' j' n' s' q w' :=
  ⟨h.st.other hg h.bx (by omega), h.fr.other hg (by omega) hlo, h.tab.keep ⟨hg.os, hg.tape, hg.output, hg.size, fun p hp => hg.block p (by have := h.st.lo; omega) (fun e => by have := Option.some.inj e; omega)⟩, by rw [hg.block _ (hlt_of h.zg) (fun e => by have := Option.some.inj e; omega)]; exact h.zg, hx⟩
theorem g1 (w : World) (b i : Nat) (v : Value) : w.grownBy (w.setCell ⟨b, i, none⟩ v) (some b) := grown_at ⟨rfl, rfl, rfl, Nat.le_refl _, fun _ _ _ => rfl⟩ i v
theorem LSt.setN {c : RC} {sl : Nat} {N : Names} {w0 : World} {b : Nat} {k i j n : Int} {s : Value} {q : List Tok} {w : World} (h : LSt c sl N w0 b k i j n s q w) (hlo : c.B ≤ w0.heap.size) (hb : w0.heap.size < b) (m : Int) : LSt c sl N w0 b k i j m s q (w.setCell ⟨b, 3, none⟩ (.int .i64 m)) := h.turn hlo hb (g1 _ _ _ _) (heap_setCell_same _ _ _ _ _ _ h.bx)
theorem LSt.setI {c : RC} {sl : Nat} {N : Names} {w0 : World} {b : Nat} {k i j n : Int} {s : Value} {q : List Tok} {w : World} (h : LSt c sl N w0 b k i j n s q w) (hlo : c.B ≤ w0.heap.size) (hb : w0.heap.size < b) (m : Int) : LSt c sl N w0 b k m j n s q (w.setCell ⟨b, 1, none⟩ (.int .i64 m)) := h.turn hlo hb (g1 _ _ _ _) (heap_setCell_same _ _ _ _ _ _ h.bx)
theorem LSt.setJ {c : RC} {sl : Nat} {N : Names} {w0 : World} {b : Nat} {k i j n : Int} {s : Value} {q : List Tok} {w : World} (h : LSt c sl N w0 b k i j n s q w) (hlo : c.B ≤ w0.heap.size) (hb : w0.heap.size < b) (m : Int) : LSt c sl N w0 b k i m n s q (w.setCell ⟨b, 2, none⟩ (.int .i64 m)) := h.turn hlo hb (g1 _ _ _ _) (heap_setCell_same _ _ _ _ _ _ h.bx)
theorem LSt.setS {c : RC} {sl : Nat} {N : Names} {w0 : World} {b : Nat} {k i j n : Int} {s : Value} {q : List Tok} {w : World} (h : LSt c sl N w0 b k i j n s q w) (hlo : c.B ≤ w0.heap.size) (hb : w0.heap.size < b) (s' : Value) : LSt c sl N w0 b k i j n s' q (w.setCell ⟨b, 4, none⟩ s') := h.turn hlo hb (g1 _ _ _ _) (heap_setCell_same _ _ _ _ _ _ h.bx)
theorem headN_range (x : List UInt8) : 0 ≤ headN x ∧ headN x ≤ 30 := by
  unfold headN
  split
  · omega
  · split
    · rename_i i hi
      have := idxL_lt hi
      simp [headsW] at this
      omega
    · omega
theorem symN_range (x : List UInt8) : 0 ≤ symN x ∧ symN x ≤ 30 := by
  unfold symN
  split
  · rename_i i hi
    have := idxL_lt hi
    simp [symsW] at this
    omega
  · omega
theorem levelsN_range (k : Int) : 0 ≤ levelsN k ∧ levelsN k ≤ 2 := by unfold levelsN; (repeat' split) <;> omega
theorem body1 {lv : List Tok → Except Nat (Int × List Tok)} {tp : Int → Names → List Tok → Except Nat (Tm × List Tok)} {E : Nat} {k : Int} {N : Names} {ts : List Tok} {a : Nat} (h : symP E k ts = .error a) : bodyP lv tp E k N ts = .error a := by unfold bodyP; rw [h]
theorem body2 {lv : List Tok → Except Nat (Int × List Tok)} {tp : Int → Names → List Tok → Except Nat (Tm × List Tok)} {E : Nat} {k n : Int} {N : Names} {ts r1 : List Tok} {a : Nat} (h : symP E k ts = .ok (n, r1)) (h1 : lvaP lv k r1 = .error a) : bodyP lv tp E k N ts = .error a := by unfold bodyP; rw [h]; simp only; rw [h1]
theorem body3 {lv : List Tok → Except Nat (Int × List Tok)} {tp : Int → Names → List Tok → Except Nat (Tm × List Tok)} {E : Nat} {k n i : Int} {N : Names} {ts r1 r2 : List Tok} {a : Nat} (h : symP E k ts = .ok (n, r1)) (h1 : lvaP lv k r1 = .ok (i, r2)) (h2 : lvbP lv k r2 = .error a) : bodyP lv tp E k N ts = .error a := by unfold bodyP; rw [h]; simp only; rw [h1]; simp only; rw [h2]
theorem body4 {lv : List Tok → Except Nat (Int × List Tok)} {tp : Int → Names → List Tok → Except Nat (Tm × List Tok)} {E : Nat} {k n i j : Int} {N : Names} {ts r1 r2 r3 : List Tok} (h : symP E k ts = .ok (n, r1)) (h1 : lvaP lv k r1 = .ok (i, r2)) (h2 : lvbP lv k r2 = .ok (j, r3)) : bodyP lv tp E k N ts = (match kdsP tp E k n N r3 with
    | .error e => .error e
    | .ok (l, r4) => match takeT E 2 r4 with
      | .error e => .error e
      | .ok (_, r5) => .ok (.mk k i j n l, r5)) := by unfold bodyP; rw [h]; simp only; rw [h1]; simp only; rw [h2]; rfl
set_option maxHeartbeats 8000000 in
set_option maxRecDepth 20000 in
theorem rlist_any (c : RC) (f : Nat) (lv : List Tok → Except Nat (Int × List Tok)) (tp : Int → Names → List Tok → Except Nat (Tm × List Tok)) (hlv : LevelC c f lv) (hll : ∀ ts n r, lv ts = .ok (n, r) → r.length < ts.length ∧ n ≤ 1000) (htp : TermC c f tp) (hlen : ∀ s N ts t r, tp s N ts = .ok (t, r) → r.length < ts.length) : ListC c f lv tp := by
  intro so N t r sl w hf ht1 h hT
  obtain ⟨du, hu1, hu2⟩ := under_term
  have hlo := h.lo
  have hB1 := al w (zeroT)
  have HF0 := Lib.hid (Fr.later hB1 hlo)
  have HS0 := Lib.hid (h.later hB1)
  have HT0 := Lib.hid (hT.keep HF0.out.below)
  have HG0 := Lib.hid (show (w.alloc (zeroT)).heap[w.heap.size]? = some (zeroT) from alloc_new _ _)
  have HK := Lib.hid (fun (k n own : Int) (q : List Tok) (sl : Nat) (w : World) (h1 : q.length < f) (h2 : RSt c (sl + 100) N q w) (h3 : TabsR c.B w) => rkids_any c f tp htp hlen k 0 0 n own N q sl w h1 h2 h3)
  have HKJ := Lib.hid (fun (q : List Tok) (sl : Nat) (w : World) (h1 : q.length < f) (h2 : RSt c (sl + 100) N q w) (h3 : TabsR c.B w) => rkidsJ_any c f tp htp hlen N q sl w h1 h2 h3)
  have HKK := Lib.hid (fun (k i j n own : Int) (q : List Tok) (sl : Nat) (w : World) (h1 : q.length < f) (h2 : RSt c (sl + 100) N q w) (h3 : TabsR c.B w) => rkids_any c f tp htp hlen k i j n own N q sl w h1 h2 h3)
  have HLV := Lib.hid hlv
  have HLL := Lib.hid hll
  have HLE := Lib.hid hlen
  have HTK := Lib.hid (show takeT c.E 1 (t :: r) = .ok (t, r) from if_pos ht1)
  obtain ⟨r0, r1, r2, r5, rlt⟩ := h.cells
  clear htp h hT hlen hlv hll hB1 ht1
  go_enter Tryd.func53, Tryd.ntmps53
  go_wp2_with fail
  refine (HS0.out.rtake 1).mono ?_
  intro e w1 hg
  rw [HTK.out] at hg
  obtain ⟨rfl, hs1, hf1⟩ := hg
  have HS1 := Lib.hid hs1
  have HF1 := Lib.hid (HF0.out.trans hf1)
  have HT1 := Lib.hid (HT0.out.keep hf1.below)
  have HG1 := Lib.hid (hf1.kept _ _ _ _ HG0.out (by decide) (by decide) (by decide))
  clear hs1 hf1 r0 r1 r2 r5 rlt HTK
  obtain ⟨r0, r1, r2, r5, rlt⟩ := HS1.out.cells
  go_wp2_with fail
  refine (HS1.out.rtake 3).mono ?_
  intro e w2 hg
  cases hx : takeT c.E 3 r with
  | error a =>
    rw [hx] at hg
    obtain ⟨rfl, hf2⟩ := hg
    unfold faultP
    go_wp2
    unfold listP; rw [hx]
    exact ⟨rfl, rfl, HF1.out.trans hf2⟩
  | ok m =>
  obtain ⟨t2, q⟩ := m
  rw [hx] at hg
  obtain ⟨rfl, hs2, hf2⟩ := hg
  have hbt := al w2 (.cells #[.int .i64 t2.k, .string ⟨t2.s.toArray⟩, .int .i64 t2.at_] 63)
  have HX2 := Lib.hid hx
  have HQ2 := Lib.hid (takeT_len hx)
  have HS2 := Lib.hid (hs2.later hbt)
  have HF2 := Lib.hid ((HF1.out.trans hf2).trans (Fr.later hbt hs2.lo))
  have HT2 := Lib.hid ((HT1.out.keep hf2.below).keep (hbt.mono hs2.lo))
  have HG2 := Lib.hid ((hbt.block _ (hlt_of (hf2.kept _ _ _ _ HG1.out (by decide) (by decide) (by decide)))).trans (hf2.kept _ _ _ _ HG1.out (by decide) (by decide) (by decide)))
  have HW2 := Lib.hid (alloc_new w2 (.cells #[.int .i64 t2.k, .string ⟨t2.s.toArray⟩, .int .i64 t2.at_] 63))
  have hGlt : w.heap.size < w2.heap.size := by have h1 := HF1.out.size; have h2 := hf2.size; have h3 := hlt_of HG1.out; omega
  clear hs2 hf2 hbt hx r0 r1 r2 r5 rlt
  obtain ⟨W, hW⟩ : ∃ W, W = w2.alloc (.cells #[.int .i64 t2.k, .string ⟨t2.s.toArray⟩, .int .i64 t2.at_] 63) := ⟨_, rfl⟩
  have hWs : W.heap.size = w2.heap.size + 1 := by rw [hW]; simp
  rw [← hW] at HS2 HF2 HT2 HG2 HW2
  have d1 : W.cell? ⟨w2.heap.size, 1, none⟩ = some (.string ⟨t2.s.toArray⟩) := by rw [Lib.cell_of_heap HW2.out]; rfl
  have d2 : W.cell? ⟨w2.heap.size, 2, none⟩ = some (.int .i64 t2.at_) := by rw [Lib.cell_of_heap HW2.out]; rfl
  have HWW := Lib.hid hW
  obtain ⟨K, hK⟩ : ∃ K, headN t2.s = K := ⟨_, rfl⟩
  have hKr := headN_range t2.s
  rw [hK] at hKr
  obtain ⟨OW, hOW⟩ : ∃ OW, sortN K = OW := ⟨_, rfl⟩
  have HV := Lib.hid (show listP lv tp c.E so N r = if K = 0 ∨ (OW ≠ 0 ∧ so ≠ 0 ∧ OW ≠ so) then .error t2.at_ else bodyP lv tp c.E K N q by unfold listP; rw [HX2.out]; simp only; rw [hK, hOW])
  have HKE := Lib.hid hK
  have HOE := Lib.hid hOW
  clear hW hK hOW
  go_upto_region 3 with fail
  go_cut [6] (fun s6 wx => s6 = .int .i64 K ∧ wx = W)
  case first =>
    have hW := HWW.out
    subst hW
    go_wp2_with fail
    refine (headed_any c.B t2.s _ HT2.out).mono ?_
    rintro e w3 ⟨rfl, rfl⟩
    go_wp2_with fail
    go_meet
    case rel => exact ⟨by rw [HKE.out], rfl⟩
  case rest =>
  obtain ⟨rfl, hw⟩ := hcut
  subst hw
  go_step
  go_step
  go_cut [7] (fun s7 wx => s7 = .int .i64 OW ∧ wx = wc)
  case first =>
    go_wp2_with fail
    refine (sortOf_any K _).mono ?_
    rintro e w3 ⟨rfl, rfl⟩
    go_wp2_with fail
    go_meet
    case rel => exact ⟨by rw [HOE.out], rfl⟩
  case rest =>
  obtain ⟨rfl, hw⟩ := hcut
  subst hw
  go_step
  go_step
  go_cut [6] (fun s6 wx => s6 = .int .i64 K ∧ wx = wc ∧ Hid (¬ (K = 0 ∨ (OW ≠ 0 ∧ so ≠ 0 ∧ OW ≠ so))))
  case first =>
    by_cases a1 : K = 0
    · have b1 : (K == 0) = true := by simpa using a1
      have HBD := Lib.hid (show K = 0 ∨ (OW ≠ 0 ∧ so ≠ 0 ∧ OW ≠ so) from Or.inl a1)
      clear a1 hKr
      go_wp2_with fail
      refine (fail_any _ _).mono ?_
      rintro e w3 ⟨rfl, rfl⟩
      unfold faultP
      go_wp2
      rw [HV.out, if_pos HBD.out]
      exact ⟨rfl, rfl, HF2.out⟩
    have b1 : (K == 0) = false := by simpa using a1
    have b1' : (K != 0) = true := by simpa using a1
    by_cases a2 : OW = 0
    · have b2 : (OW == 0) = true := by simpa using a2
      have b2' : (OW != 0) = false := by simpa using a2
      have HBD := Lib.hid (show ¬ (K = 0 ∨ (OW ≠ 0 ∧ so ≠ 0 ∧ OW ≠ so)) from fun h => h.elim a1 (fun h => h.1 a2))
      clear a1 a2 hKr
      go_wp2_with fail
      go_meet
      case rel => exact ⟨rfl, rfl, HBD⟩
    have b2 : (OW == 0) = false := by simpa using a2
    have b2' : (OW != 0) = true := by simpa using a2
    by_cases a3 : so = 0
    · have b3 : (so == 0) = true := by simpa using a3
      have b3' : (so != 0) = false := by simpa using a3
      have HBD := Lib.hid (show ¬ (K = 0 ∨ (OW ≠ 0 ∧ so ≠ 0 ∧ OW ≠ so)) from fun h => h.elim a1 (fun h => h.2.1 a3))
      clear a1 a2 a3 hKr
      go_wp2_with fail
      go_meet
      case rel => exact ⟨rfl, rfl, HBD⟩
    have b3 : (so == 0) = false := by simpa using a3
    have b3' : (so != 0) = true := by simpa using a3
    by_cases a4 : OW = so
    · have b4 : (OW == so) = true := by simpa using a4
      have b4' : (OW != so) = false := by simpa using a4
      have HBD := Lib.hid (show ¬ (K = 0 ∨ (OW ≠ 0 ∧ so ≠ 0 ∧ OW ≠ so)) from fun h => h.elim a1 (fun h => h.2.2 a4))
      clear a1 a2 a3 a4 hKr
      go_wp2_with fail
      go_meet
      case rel => exact ⟨rfl, rfl, HBD⟩
    have b4 : (OW == so) = false := by simpa using a4
    have b4' : (OW != so) = true := by simpa using a4
    have HBD := Lib.hid (show K = 0 ∨ (OW ≠ 0 ∧ so ≠ 0 ∧ OW ≠ so) from Or.inr ⟨a2, a3, a4⟩)
    clear a1 a2 a3 a4 hKr
    go_wp2_with fail
    refine (fail_any _ _).mono ?_
    rintro e w3 ⟨rfl, rfl⟩
    unfold faultP
    go_wp2
    rw [HV.out, if_pos HBD.out]
    exact ⟨rfl, rfl, HF2.out⟩
  case rest =>
  obtain ⟨rfl, hw, HBD⟩ := hcut
  subst hw
  have HVB := Lib.hid (show listP lv tp c.E so N r = bodyP lv tp c.E K N q by rw [HV.out, if_neg HBD.out])
  have hb := al wc (boxK K 0 0 0)
  have hbw : w.heap.size < wc.heap.size := by rw [hWs]; omega
  obtain ⟨b, hbE⟩ : ∃ b, wc.heap.size = b := ⟨_, rfl⟩
  have HL1 := Lib.hid (show LSt c (sl + 200) N w b K 0 0 0 (.slice none 0 0) q (wc.alloc (boxK K 0 0 0)) from ⟨(HS2.out.later hb).less (by omega), HF2.out.trans (Fr.later hb HS2.out.lo), HT2.out.keep (hb.mono HS2.out.lo), (hb.block _ (hlt_of HG2.out)).trans HG2.out, by rw [← hbE]; exact alloc_new _ _⟩)
  rw [hbE] at hbw
  clear hb d1 d2
  go_step
  go_step
  go_cut [8] (fun s8 wx => s8 = .pointer (some ⟨b, 0, none⟩) ∧ wx = wc.alloc (boxK K 0 0 0))
  case first =>
    go_wp2_with fail
    go_meet
    case rel => exact ⟨by rw [← hbE, hWs], rfl⟩
  case rest =>
  obtain ⟨rfl, hw⟩ := hcut
  rw [← hw] at HL1
  clear hw
  go_step
  go_step
  go_cut [6] (fun s6 wx => s6 = .int .i64 K ∧ ∃ n q1, Hid (symP c.E K q = .ok (n, q1) ∧ LSt c (sl + 200) N w b K 0 0 n (.slice none 0 0) q1 wx ∧ q1.length ≤ q.length ∧ 0 ≤ n ∧ n ≤ 30))
  case first =>
    by_cases a1 : K = 23
    · have b1 : (K == 23) = true := by simpa using a1
      have HKK := Lib.hid a1
      obtain ⟨r0, r1, r2, r5, rlt⟩ := HL1.out.st.cells
      clear a1
      go_wp2_with fail
      refine (HL1.out.st.rtake 3).mono ?_
      intro e w3 hg
      cases hx : takeT c.E 3 q with
      | error a =>
        rw [hx] at hg
        obtain ⟨rfl, hf⟩ := hg
        unfold faultP
        go_wp2
        rw [HVB.out, body1 (show symP c.E K q = .error a by unfold symP; rw [if_pos HKK.out, hx])]
        exact ⟨rfl, rfl, HL1.out.fr.trans hf⟩
      | ok m =>
      obtain ⟨t3, q1⟩ := m
      rw [hx] at hg
      obtain ⟨rfl, hs3, hf3⟩ := hg
      have hbt := al w3 (.cells #[.int .i64 t3.k, .string ⟨t3.s.toArray⟩, .int .i64 t3.at_] 63)
      have HX3 := Lib.hid hx
      have HL2 := Lib.hid ((HL1.out.on hf3 hs3).on (Fr.later hbt hs3.lo) ((hs3.later hbt).less (sl' := sl + 200) (by omega)))
      have HW3 := Lib.hid (alloc_new w3 (.cells #[.int .i64 t3.k, .string ⟨t3.s.toArray⟩, .int .i64 t3.at_] 63))
      have hblt : b < w3.heap.size := by have h1 := hf3.size; have h2 := hlt_of HL1.out.bx; omega
      clear hs3 hf3 hbt hx r0 r1 r2 r5 rlt
      obtain ⟨m, hm⟩ : ∃ m, symN t3.s = m := ⟨_, rfl⟩
      have hmr := symN_range t3.s
      rw [hm] at hmr
      go_wp2_with fail
      refine (symbol_any c.B t3.s _ HL2.out.tab).mono ?_
      rintro e w4 ⟨rfl, rfl⟩
      rw [hm]
      obtain ⟨W3, hW3⟩ : ∃ W3, W3 = w3.alloc (.cells #[.int .i64 t3.k, .string ⟨t3.s.toArray⟩, .int .i64 t3.at_] 63) := ⟨_, rfl⟩
      rw [← hW3] at HL2 HW3
      rw [← hW3]
      obtain ⟨⟨q0, q1x, q2, q3, q4⟩, ⟨g0, g1x, g2, g3, g4⟩, hGl⟩ := cells5_of HL2.out.bx
      have HL3 := Lib.hid (HL2.out.setN hlo hbw m)
      have x2 : (W3.setCell ⟨b, 3, none⟩ (.int .i64 m)).cell? ⟨w3.heap.size, 2, none⟩ = some (.int .i64 t3.at_) := by
        rw [Lib.cell_of_heap (((g1 W3 b 3 (.int .i64 m)).block _ (hlt_of HW3.out) (fun e => by have := Option.some.inj e; omega)).trans HW3.out)]; rfl
      have HSM := Lib.hid hm
      clear hm hW3
      by_cases a2 : m = 0
      · have b2 : (m == 0) = true := by simpa using a2
        have HM := Lib.hid a2
        clear a2
        go_wp2_with fail
        refine (fail_any _ _).mono ?_
        rintro e w5 ⟨rfl, rfl⟩
        unfold faultP
        go_wp2
        rw [HVB.out, body1 (show symP c.E K q = .error t3.at_ by unfold symP; rw [if_pos HKK.out, HX3.out]; simp only; rw [HSM.out, if_pos HM.out])]
        exact ⟨rfl, rfl, HL3.out.fr⟩
      · have b2 : (m == 0) = false := by simpa using a2
        have HM := Lib.hid a2
        clear a2
        go_wp2_with fail
        go_meet
        case rel => exact ⟨rfl, m, q1, Lib.hid ⟨by unfold symP; rw [if_pos HKK.out, HX3.out]; simp only; rw [HSM.out, if_neg HM.out], HL3.out, by have := takeT_len HX3.out; omega, hmr.1, hmr.2⟩⟩
    · have b1 : (K == 23) = false := by simpa using a1
      have HKK := Lib.hid a1
      clear a1
      go_wp2_with fail
      go_meet
      case rel => exact ⟨rfl, 0, q, Lib.hid ⟨by unfold symP; rw [if_neg HKK.out], HL1.out, Nat.le_refl _, by omega, by omega⟩⟩
  case rest =>
  obtain ⟨rfl, n, q1, HA⟩ := hcut
  obtain ⟨LV, hLV⟩ : ∃ LV, levelsN K = LV := ⟨_, rfl⟩
  have hLr := levelsN_range K
  rw [hLV] at hLr
  have HLE2 := Lib.hid hLV
  clear hLV HL1
  go_step
  go_step
  go_cut [10] (fun s10 wx => s10 = .int .i64 LV ∧ wx = wc)
  case first =>
    go_wp2_with fail
    refine (levelsOf_any K _).mono ?_
    rintro e w3 ⟨rfl, rfl⟩
    go_wp2_with fail
    go_meet
    case rel => exact ⟨by rw [HLE2.out], rfl⟩
  case rest =>
  obtain ⟨rfl, hw⟩ := hcut
  subst hw
  go_step
  go_step
  go_cut [10] (fun s10 wx => s10 = .int .i64 LV ∧ ∃ i q2, Hid (lvaP lv K q1 = .ok (i, q2) ∧ LSt c (sl + 200) N w b K i 0 n (.slice none 0 0) q2 wx ∧ q2.length ≤ q1.length ∧ 0 ≤ i ∧ i ≤ 10000000))
  case first =>
    have HL2 := Lib.hid HA.out.2.1
    obtain ⟨r0, r1, r2, r5, rlt⟩ := HL2.out.st.cells
    by_cases a1 : 0 < LV
    · have HP := Lib.hid (show 0 < levelsN K by rw [HLE2.out]; exact a1)
      go_wp2_with fail
      refine (HLV.out.use q1 (sl + 200) N _ (by have := HA.out.2.2.1; have := HQ2.out; omega) HL2.out.st).mono ?_
      intro e w3 hg
      cases hx : lv q1 with
      | error a =>
        rw [hx] at hg
        obtain ⟨rfl, hf⟩ := hg
        unfold faultP
        go_wp2
        rw [HVB.out, body2 HA.out.1 (show lvaP lv K q1 = .error a by unfold lvaP; rw [if_pos HP.out, hx])]
        exact ⟨rfl, rfl, HL2.out.fr.trans hf⟩
      | ok m =>
      obtain ⟨i, q2⟩ := m
      rw [hx] at hg
      obtain ⟨rfl, hs3, hf3, h0, h1⟩ := hg
      have HL3 := Lib.hid (HL2.out.on hf3 hs3)
      obtain ⟨⟨y0, y1, y2, y3, y4⟩, ⟨g0, g1x, g2, g3, g4⟩, hGl⟩ := cells5_of HL3.out.bx
      have HL4 := Lib.hid (HL3.out.setI hlo hbw i)
      have HX3 := Lib.hid hx
      have HLN := Lib.hid (HLL.out _ _ _ hx).1
      clear hs3 hf3 hx
      go_wp2_with fail
      go_meet
      case rel => exact ⟨rfl, i, q2, Lib.hid ⟨by unfold lvaP; rw [if_pos HP.out, HX3.out], HL4.out, by have := HLN.out; omega, h0, h1⟩⟩
    · have HP := Lib.hid (show levelsN K ≤ 0 by rw [HLE2.out]; omega)
      go_wp2_with fail
      go_meet
      case rel => exact ⟨rfl, 0, q1, Lib.hid ⟨by unfold lvaP; rw [if_neg (by have := HP.out; omega)], HL2.out, Nat.le_refl _, by omega, by omega⟩⟩
  case rest =>
  obtain ⟨rfl, i, q2, HBB⟩ := hcut
  go_step
  go_step
  go_cut [10] (fun s10 wx => s10 = .int .i64 LV ∧ ∃ j q3, Hid (lvbP lv K q2 = .ok (j, q3) ∧ LSt c (sl + 200) N w b K i j n (.slice none 0 0) q3 wx ∧ q3.length ≤ q2.length ∧ 0 ≤ j ∧ j ≤ 10000000))
  case first =>
    have HL2 := Lib.hid HBB.out.2.1
    obtain ⟨r0, r1, r2, r5, rlt⟩ := HL2.out.st.cells
    by_cases a1 : 1 < LV
    · have HP := Lib.hid (show 1 < levelsN K by rw [HLE2.out]; exact a1)
      go_wp2_with fail
      refine (HLV.out.use q2 (sl + 200) N _ (by have := HBB.out.2.2.1; have := HA.out.2.2.1; have := HQ2.out; omega) HL2.out.st).mono ?_
      intro e w3 hg
      cases hx : lv q2 with
      | error a =>
        rw [hx] at hg
        obtain ⟨rfl, hf⟩ := hg
        unfold faultP
        go_wp2
        rw [HVB.out, body3 HA.out.1 HBB.out.1 (show lvbP lv K q2 = .error a by unfold lvbP; rw [if_pos HP.out, hx])]
        exact ⟨rfl, rfl, HL2.out.fr.trans hf⟩
      | ok m =>
      obtain ⟨j, q3⟩ := m
      rw [hx] at hg
      obtain ⟨rfl, hs3, hf3, h0, h1⟩ := hg
      have HL3 := Lib.hid (HL2.out.on hf3 hs3)
      obtain ⟨⟨y0, y1, y2, y3, y4⟩, ⟨g0, g1x, g2, g3, g4⟩, hGl⟩ := cells5_of HL3.out.bx
      have HL4 := Lib.hid (HL3.out.setJ hlo hbw j)
      have HX3 := Lib.hid hx
      have HLN := Lib.hid (HLL.out _ _ _ hx).1
      clear hs3 hf3 hx
      go_wp2_with fail
      go_meet
      case rel => exact ⟨rfl, j, q3, Lib.hid ⟨by unfold lvbP; rw [if_pos HP.out, HX3.out], HL4.out, by have := HLN.out; omega, h0, h1⟩⟩
    · have HP := Lib.hid (show levelsN K ≤ 1 by rw [HLE2.out]; omega)
      go_wp2_with fail
      go_meet
      case rel => exact ⟨rfl, 0, q2, Lib.hid ⟨by unfold lvbP; rw [if_neg (by have := HP.out; omega)], HL2.out, Nat.le_refl _, by omega, by omega⟩⟩
  case rest =>
  obtain ⟨rfl, j, q3, HC⟩ := hcut
  have HVC := Lib.hid (HVB.out.trans (body4 HA.out.1 HBB.out.1 HC.out.1))
  have HQ3 := Lib.hid (show q3.length ≤ q.length by have := HA.out.2.2.1; have := HBB.out.2.2.1; have := HC.out.2.2.1; omega)
  have HNR := Lib.hid (show 0 ≤ n ∧ n ≤ 30 ∧ 0 ≤ i ∧ i ≤ 10000000 ∧ 0 ≤ j ∧ j ≤ 10000000 from ⟨HA.out.2.2.2.1, HA.out.2.2.2.2, HBB.out.2.2.2.1, HBB.out.2.2.2.2, HC.out.2.2.2.1, HC.out.2.2.2.2⟩)
  have HL2 := Lib.hid HC.out.2.1
  clear HA HBB HC
  go_step
  go_step
  go_cut [6] (fun s6 wx => s6 = .int .i64 K ∧ ∃ (l : List Tm) (a : Option Addr) (cap : Nat) (q4 : List Tok), Hid (kdsP tp c.E K n N q3 = .ok (l, q4) ∧ LSt c (sl + 100) N w b K i j n (.slice a l.length cap) q4 wx ∧ LiesP wx (Own (w.heap.size + 1) wx) l (.slice a l.length cap)))
  case first =>
    obtain ⟨r0, r1, r2, r5, rlt⟩ := HL2.out.st.cells
    by_cases a1 : K = 22
    · have b1 : (K == 22) = true := by simpa using a1
      have HP := Lib.hid a1
      clear a1
      go_wp2_with fail
      refine (HKJ.out q3 (sl + 100) _ (by have := HQ3.out; have := HQ2.out; omega) (HL2.out.st.less (by omega)) HL2.out.tab).mono ?_
      intro e w3 hg
      cases hx : kidsJ tp c.E N q3 with
      | error a =>
        rw [hx] at hg
        obtain ⟨rfl, hf⟩ := hg
        unfold faultP
        go_wp2
        rw [HVC.out, show kdsP tp c.E K n N q3 = .error a by unfold kdsP; rw [if_pos HP.out, hx]]
        exact ⟨rfl, rfl, HL2.out.fr.trans hf⟩
      | ok m =>
      obtain ⟨l, q4⟩ := m
      rw [hx] at hg
      obtain ⟨s, rfl, hl, hs3, hf3⟩ := hg
      obtain ⟨a, cap, rfl, -, -⟩ := hl.out
      have HL3 := Lib.hid (HL2.out.on hf3 hs3)
      have hbl := hlt_of HL2.out.bx
      obtain ⟨⟨y0, y1, y2, y3, y4⟩, ⟨g0, g1x, g2, g3, g4⟩, hGl⟩ := cells5_of HL3.out.bx
      have HL4 := Lib.hid (HL3.out.setS hlo hbw (.slice a l.length cap))
      have HLS := Lib.hid ((liesP_grown hl (g1 w3 b 4 (.slice a l.length cap)) hbl).from (B' := w.heap.size + 1) (by omega))
      have HX3 := Lib.hid hx
      clear hs3 hf3 hx hl
      go_wp2_with fail
      go_meet
      case rel => exact ⟨rfl, l, a, cap, q4, Lib.hid ⟨by unfold kdsP; rw [if_pos HP.out, HX3.out], HL4.out, HLS.out⟩⟩
    · have b1 : (K == 22) = false := by simpa using a1
      have HP := Lib.hid a1
      clear a1
      obtain ⟨⟨y0, y1, y2, y3, y4⟩, ⟨g0, g1x, g2, g3, g4⟩, hGl⟩ := cells5_of HL2.out.bx
      go_wp2_with fail
      refine (HKK.out K i j n OW q3 (sl + 100) _ (by have := HQ3.out; have := HQ2.out; omega) (HL2.out.st.less (by omega)) HL2.out.tab).mono ?_
      intro e w3 hg
      cases hx : kidsK tp c.E K n OW N q3 with
      | error a =>
        rw [hx] at hg
        obtain ⟨rfl, hf⟩ := hg
        unfold faultP
        go_wp2
        rw [HVC.out, show kdsP tp c.E K n N q3 = .error a by unfold kdsP; rw [if_neg HP.out, HOE.out, hx]]
        exact ⟨rfl, rfl, HL2.out.fr.trans hf⟩
      | ok m =>
      obtain ⟨l, q4⟩ := m
      rw [hx] at hg
      obtain ⟨s, rfl, hl, hs3, hf3⟩ := hg
      obtain ⟨a, cap, rfl, -, -⟩ := hl.out
      have HL3 := Lib.hid (HL2.out.on hf3 hs3)
      clear y0 y1 y2 y3 y4 g0 g1x g2 g3 g4
      obtain ⟨⟨y0, y1, y2, y3, y4⟩, ⟨g0, g1x, g2, g3, g4⟩, hGl3⟩ := cells5_of HL3.out.bx
      have HL4 := Lib.hid (HL3.out.setS hlo hbw (.slice a l.length cap))
      have HLS := Lib.hid ((liesP_grown hl (g1 w3 b 4 (.slice a l.length cap)) hGl).from (B' := w.heap.size + 1) (by omega))
      have HX3 := Lib.hid hx
      clear hs3 hf3 hx hl
      go_wp2_with fail
      go_meet
      case rel => exact ⟨rfl, l, a, cap, q4, Lib.hid ⟨by unfold kdsP; rw [if_neg HP.out, HOE.out, HX3.out], HL4.out, HLS.out⟩⟩
  case rest =>
  obtain ⟨rfl, l, a, cap, q4, HD⟩ := hcut
  have HL3 := Lib.hid HD.out.2.1
  clear HL2
  obtain ⟨r0, r1, r2, r5, rlt⟩ := HL3.out.st.cells
  go_wp2_with fail
  refine (HL3.out.st.rtake 2).mono ?_
  intro e w3 hg
  cases hx : takeT c.E 2 q4 with
  | error a =>
    rw [hx] at hg
    obtain ⟨rfl, hf⟩ := hg
    unfold faultP
    go_wp2
    rw [HVC.out, HD.out.1]; simp only; rw [hx]
    exact ⟨rfl, rfl, HL3.out.fr.trans hf⟩
  | ok m =>
  obtain ⟨t4, q5⟩ := m
  rw [hx] at hg
  obtain ⟨rfl, hs3, hf3⟩ := hg
  have HL4 := Lib.hid (HL3.out.on hf3 hs3)
  obtain ⟨⟨y0, y1, y2, y3, y4⟩, ⟨g0, g1x, g2, g3, g4⟩, hGl⟩ := cells5_of HL4.out.bx
  obtain ⟨⟨z0, z1, z2, z3, z4⟩, ⟨f0, f1, f2, f3, f4⟩, hZl⟩ := cells5_of HL4.out.zg
  have HZ := Lib.hid HL4.out.zg
  have HE := Lib.hid (term_end (t := .mk K i j n l) (w2 := cell5 w3 w.heap.size 0 (.int .i64 K) (.int .i64 i) (.int .i64 j) (.int .i64 n) (.slice a l.length cap)) hlo HL4.out.fr (cell5_grown _ _ _ _ _ _ _ _) HZ.out (HL4.out.st.less (sl' := sl) (by omega)) (liesP_fr HD.out.2.2 hf3))
  have HX4 := Lib.hid hx
  clear hs3 hf3 hx r0 r1 r2 r5 rlt
  go_wp2
  refine bodyPost_ret (results_cell_row rfl _ _ w.heap.size _ _ _ du rfl (five_set HZ.out) hu1 (by cases du <;> first | rfl | exact hu2) size_term) rfl ?_
  rw [HVC.out, HD.out.1]; simp only; rw [HX4.out]
  refine ⟨.slice a l.length cap, rfl, HE.out.1, ?_, HE.out.2.1, HE.out.2.2⟩
  have := HNR.out
  unfold Tm.fine I64
  simp only [Tm.k, Tm.i, Tm.j, Tm.n]
  omega
end Go.Proofs.YtlalolnhpcbjnaaDoor

namespace Go.Proofs.YtlalolnhpcbjnaaDoor
open Go.RowKit Go.Maps Go.ChangeShapes

theorem rterm_any (c : RC) (hij : (0 ≤ c.i ∧ c.i ≤ 1000) ∧ 0 ≤ c.j ∧ c.j ≤ 1000) : ∀ f, TermC c f (termP c.E c.i c.j f)
  | 0 => fun so N ts sl w hf _ _ => by omega
  | f + 1 => rterm_step c f (rlist_any c f (levelP c.E c.i c.j f) (termP c.E c.i c.j f) (rlevel_any c hij f) (fun ts n r h => ⟨levelP_len h, levelP_most h⟩) (rterm_any c hij f) (fun s N ts t r h => termP_len h))
end Go.Proofs.YtlalolnhpcbjnaaDoor

namespace Go.Proofs.YtlalolnhpcbjnaaDoor
open Go.RowKit Go.Maps Go.ChangeShapes

def toksO (x : List Tok × Option Nat) : List Tok := match x with
  | (ts, none) => ts
  | (_, some _) => []
/-- The tokens of a text, where they end, and whether a fault stands there. -/
def ofL (l : List UInt8) : List Tok × Nat × Bool := match lexL l 0 with
  | (ts, none) => (ts, l.length, false)
  | (_, some p) => (toksO (lexL (l.take p) 0), p, true)
theorem lexL_bound {l : List UInt8} : ∀ (n p : Nat), l.length - p ≤ n → (∀ q, (lexL l p).2 = some q → q < l.length) ∧ (∀ t ∈ (lexL l p).1, t.s.length ≤ l.length ∧ t.at_ < l.length) ∧ (lexL l p).1.length + min p l.length ≤ l.length
  | 0, p, h => by
    rw [lexL_end (by omega)]
    exact ⟨fun q hq => (by cases hq), fun t ht => (by cases ht), by simp; omega⟩
  | n + 1, p, h => by
    by_cases h1 : p + skipL (l.drop p) < l.length
    · cases hn : nextL (l.drop (p + skipL (l.drop p))) with
      | none =>
        rw [lexL_fault rfl h1 hn]
        exact ⟨fun q hq => (by obtain rfl := Option.some.inj hq; exact h1), fun t ht => (by cases ht), by simp; omega⟩
      | some x =>
        obtain ⟨k, m⟩ := x
        have hb := (nextL_range hn).2.1
        have hb1 := (nextL_range hn).1
        rw [lexL_next rfl h1 hn]
        have hr := lexL_bound (l := l) n (p + skipL (l.drop p) + m) (by omega)
        refine ⟨hr.1, fun t ht => ?_, ?_⟩
        · rcases List.mem_cons.1 ht with rfl | ht
          · exact ⟨by simp; omega, h1⟩
          · exact hr.2.1 t ht
        · have := hr.2.2
          simp only [List.length_cons]
          rw [List.length_drop] at hb
          omega
    · rw [lexL_end h1]
      exact ⟨fun q hq => (by cases hq), fun t ht => (by cases ht), by simp; omega⟩
theorem ofL_bound (l : List UInt8) : (ofL l).1.length ≤ l.length ∧ (ofL l).2.1 ≤ l.length ∧ ∀ t ∈ (ofL l).1, t.s.length ≤ l.length ∧ t.at_ ≤ l.length := by
  have h := lexL_bound (l := l) l.length 0 (by omega)
  unfold ofL
  rcases hx : lexL l 0 with ⟨ts, o⟩
  rw [hx] at h
  cases o with
  | none =>
    simp only
    exact ⟨by have := h.2.2; simp at this; omega, Nat.le_refl _, fun t ht => ⟨(h.2.1 t ht).1, Nat.le_of_lt (h.2.1 t ht).2⟩⟩
  | some p =>
    have hp : p < l.length := h.1 p rfl
    have k := lexL_bound (l := l.take p) (l.take p).length 0 (by omega)
    have hl : (l.take p).length = p := by rw [List.length_take]; omega
    rw [hl] at k
    simp only
    rcases hy : lexL (l.take p) 0 with ⟨us, o⟩
    rw [hy] at k
    cases o with
    | none => exact ⟨by show us.length ≤ _; have := k.2.2; simp at this; omega, by omega, fun t ht => by have := k.2.1 t ht; exact ⟨by omega, by omega⟩⟩
    | some q => exact ⟨by show 0 ≤ _; omega, by omega, fun t ht => (by cases ht)⟩
theorem toks_lies {B : Nat} {w : World} {v : Value} {ts : List Tok} (h : Toks 63 B w v ts) : TLies w ts v := by
  obtain ⟨h1, h2⟩ := h
  rcases h2 with ⟨rfl, h0⟩ | ⟨g, cap, cur, rfl, hg, hh, hn, hc, hs, ht⟩
  · have h3 : ts = [] := List.eq_nil_of_length_eq_zero h0
    subst h3
    exact ⟨none, 0, rfl, Nat.le_refl _, by unfold maxLen; omega, Or.inl rfl⟩
  · exact ⟨some ⟨g, 0, none⟩, cap, rfl, hn, hc, Or.inr ⟨g, 0, cur, (0, 0), rfl, hh, by rw [List.drop_zero]; exact ht⟩⟩
def OfG (w : World) (x : List Tok × Nat × Bool) (e : Ending) (w' : World) : Prop := ∃ tv, e = .returned (.pointer (some ⟨w'.heap.size - 1, 0, none⟩)) ∧ w.heap.size < w'.heap.size ∧ SAt w' (w'.heap.size - 1) tv x.2.1 x.2.2 ∧ TLies w' x.1 tv ∧ Below w.heap.size w w'
theorem ofG_of {w w1 : World} {x : List Tok × Nat × Bool} {tv : Value} (hB : Below w.heap.size w w1) (hT : TLies w1 x.1 tv) : OfG w x (.returned (.pointer (some ⟨w1.heap.size, 0, none⟩))) (w1.alloc (.cells #[tv, .int .i64 x.2.1, .bool x.2.2] 91)) := by
  have hb := (Below.refl w1.heap.size w1).alloc (Nat.le_refl _) (.cells #[tv, .int .i64 x.2.1, .bool x.2.2] 91)
  have hs : (w1.alloc (.cells #[tv, .int .i64 x.2.1, .bool x.2.2] 91)).heap.size - 1 = w1.heap.size := by simp
  have := hB.size
  unfold OfG
  rw [hs]
  exact ⟨tv, rfl, by simp; omega, alloc_new _ _, hT.keep fun g cs fz e => by rw [hb.block _ (hlt_of e)]; exact e, hB.trans (hb.mono hB.size)⟩
set_option maxHeartbeats 2000000 in
set_option maxRecDepth 20000 in
theorem of_any (s : ByteArray) (w : World) (hs : s.size ≤ 10000000) : Calls Tryd.prog 36 #[.string s] w (OfG w (ofL s.data.toList)) := by
  have HLX := Lib.hid (fun (s : ByteArray) (w : World) (h : s.size ≤ 10000000) => lex_any s w h)
  have hsl : s.data.toList.length = s.size := by simp
  have HSL := Lib.hid hsl
  clear hsl
  go_enter Tryd.func36, Tryd.ntmps36
  go_wp2_with fail
  refine (HLX.out s w hs).mono ?_
  intro e w1 hg
  cases hl : lexL s.data.toList 0 with
  | mk ts o =>
  rw [hl] at hg
  obtain ⟨hB, hg⟩ := hg
  cases o with
  | none =>
    obtain ⟨v, hT, rfl⟩ := hg
    have HO := Lib.hid (show ofL s.data.toList = (ts, s.size, false) by unfold ofL; rw [hl]; simp only; rw [HSL.out])
    obtain ⟨a, cap, rfl, hv⟩ := toks_lies hT
    have HT := Lib.hid (show TLies w1 ts (.slice a ts.length cap) from ⟨a, cap, rfl, hv⟩)
    have HB := Lib.hid hB
    clear hT hB hl hv
    go_wp2
    go_ret
    rw [HO.out]
    exact ofG_of (x := (ts, s.size, false)) HB.out HT.out
  | some p =>
    obtain rfl := hg
    have hp : p < s.size := by have := (lexL_bound (l := s.data.toList) s.data.toList.length 0 (by omega)).1 p (by rw [hl]); rw [HSL.out] at this; exact this
    obtain ⟨P, hP⟩ : ∃ P, s.extract 0 p = P := ⟨_, rfl⟩
    have hPd : P.data.toList = s.data.toList.take p := by rw [← hP]; exact (Lib.extract_data s 0 p).trans (by simp)
    have hPs : P.size ≤ 10000000 := by
      have h1 : P.data.toList.length = P.size := by simp
      rw [hPd, List.length_take] at h1
      omega
    have hsli : ∀ w', (Instr.slice 9 (.string s) none (some (.int .i64 (p : Int))) none).run Tryd.prog w' = .ok (.string P) w' := fun w' => by
      rw [← hP]; exact run_slice_string_h w' 9 s Tryd.underlying9 .i64 (p : Int) (by omega) (by omega)
    have HO := Lib.hid (show ofL s.data.toList = (toksO (lexL P.data.toList 0), p, true) by unfold ofL; rw [hl, hPd])
    have HB := Lib.hid hB
    clear hB hl hP hPd
    go_wp2_with fail
    refine (HLX.out P w1 hPs).mono ?_
    intro e w2 hg
    cases hl : lexL P.data.toList 0 with
    | mk us o =>
    rw [hl] at hg HO
    obtain ⟨hB2, hg⟩ := hg
    have HB2 := Lib.hid (HB.out.trans (hB2.mono HB.out.size))
    cases o with
    | none =>
      obtain ⟨v, hT, rfl⟩ := hg
      obtain ⟨a, cap, rfl, hv⟩ := toks_lies hT
      have HT := Lib.hid (show TLies w2 us (.slice a us.length cap) from ⟨a, cap, rfl, hv⟩)
      clear hT hB2 hl hv
      go_wp2
      go_ret
      rw [HO.out]
      exact ofG_of (x := (us, p, true)) HB2.out HT.out
    | some q =>
      obtain rfl := hg
      clear hB2 hl
      go_wp2
      go_ret
      rw [HO.out]
      exact ofG_of (x := ([], p, true)) HB2.out ⟨none, 0, rfl, Nat.le_refl _, by unfold maxLen; omega, Or.inl rfl⟩
/-- The end of the reading. -/
def endP (E : Nat) (br : Bool) (ts : List Tok) : Except Nat Unit := if ts = [] ∧ br = false then .ok () else .error (hereT E ts)
def EndG (w : World) (x : Except Nat Unit) (e : Ending) (w' : World) : Prop := w = w' ∧ match x with
  | .error a => e = faultP a
  | .ok _ => e = .returned (.tuple #[])
set_option maxRecDepth 20000 in
theorem end_any (S : Nat) (v : Value) (E : Nat) (br : Bool) (ts : List Tok) (w : World) (hS : SAt w S v E br) (hv : TLies w ts v) : Calls Tryd.prog 39 #[.pointer (some ⟨S, 0, none⟩)] w (EndG w (endP E br ts)) := by
  have HH := Lib.hid (here_any S v E br ts w hS hv)
  have c0 : w.cell? ⟨S, 0, none⟩ = some v := by rw [Lib.cell_of_heap hS]; rfl
  have c2 : w.cell? ⟨S, 2, none⟩ = some (.bool br) := by rw [Lib.cell_of_heap hS]; rfl
  obtain ⟨a, cap, rfl, -, hcp, -⟩ := hv
  clear hS
  by_cases h0 : ts = []
  · cases br with
    | false =>
      have HE := Lib.hid (show endP E false ts = .ok () from if_pos ⟨h0, rfl⟩)
      subst h0
      go_enter Tryd.func39, Tryd.ntmps39
      go_wp2
      go_end0
      rw [HE.out]
      exact ⟨rfl, rfl⟩
    | true =>
      have HE := Lib.hid (show endP E true ts = .error (hereT E ts) from if_neg (fun h => by cases h.2))
      subst h0
      go_enter Tryd.func39, Tryd.ntmps39
      go_wp2_with fail
      refine HH.out.mono ?_
      rintro e w1 ⟨rfl, rfl⟩
      go_wp2_with fail
      refine (fail_any _ _).mono ?_
      rintro e w1 ⟨rfl, rfl⟩
      unfold faultP
      go_wp2
      rw [HE.out]
      exact ⟨rfl, rfl, rfl⟩
  · have HE := Lib.hid (show endP E br ts = .error (hereT E ts) from if_neg (fun h => h0 h.1))
    have hl : 0 < ts.length := List.length_pos_iff.2 h0
    clear h0
    go_enter Tryd.func39, Tryd.ntmps39
    go_wp2_with fail
    refine HH.out.mono ?_
    rintro e w1 ⟨rfl, rfl⟩
    go_wp2_with fail
    refine (fail_any _ _).mono ?_
    rintro e w1 ⟨rfl, rfl⟩
    unfold faultP
    go_wp2
    rw [HE.out]
    exact ⟨rfl, rfl, rfl⟩
end Go.Proofs.YtlalolnhpcbjnaaDoor

namespace Go.Proofs.YtlalolnhpcbjnaaDoor.Dv
open Go.RowKit

def wordsL : List ByteArray := [⟨#[115, 111, 114, 116]⟩, ⟨#[118, 97, 114]⟩, ⟨#[112, 105]⟩, ⟨#[108, 97, 109]⟩, ⟨#[97, 112, 112]⟩, ⟨#[115, 105, 103]⟩, ⟨#[112, 97, 105, 114]⟩, ⟨#[102, 115, 116]⟩, ⟨#[115, 110, 100]⟩, ⟨#[101, 113]⟩, ⟨#[114, 101, 102, 108]⟩, ⟨#[99, 111, 110, 118]⟩, ⟨#[115, 97, 109, 101]⟩, ⟨#[115, 121, 109]⟩, ⟨#[116, 114, 97, 110, 115]⟩, ⟨#[99, 111, 110, 118, 115]⟩, ⟨#[114, 101, 102, 108, 101, 99, 116]⟩, ⟨#[98, 101, 116, 97]⟩, ⟨#[102, 105, 114, 115, 116]⟩, ⟨#[115, 101, 99, 111, 110, 100]⟩, ⟨#[101, 116, 97]⟩, ⟨#[115, 117, 114, 106]⟩, ⟨#[114, 101, 112, 108]⟩, ⟨#[105, 114, 114]⟩, ⟨#[120, 112, 105]⟩, ⟨#[120, 115, 105, 103]⟩, ⟨#[120, 108, 97, 109]⟩, ⟨#[120, 112, 97, 105, 114]⟩]
def kidsL : List Int := [0, 0, 2, 2, 2, 2, 3, 1, 1, 2, 1, 2, 1, 1, 2, 2, 1, 2, 3, 3, 1, 1, 2, 2, 2, 2, 3, 4]
def wordN (r : Int) : ByteArray := if 1 ≤ r ∧ r ≤ 28 then (wordsL[(r - 1).toNat]?).getD ⟨#[]⟩ else ⟨#[]⟩
def dkidsN (r : Int) : Int := if 1 ≤ r ∧ r ≤ 28 then (kidsL[(r - 1).toNat]?).getD 0 else -1
end Go.Proofs.YtlalolnhpcbjnaaDoor.Dv

namespace Go.Proofs.YtlalolnhpcbjnaaDoor.Dv
open Go.RowKit

/-- The rule of a word: the first one that bears it, or 0. -/
def RuleIs (s : ByteArray) (r : Int) : Prop := (∃ k : Nat, 1 ≤ k ∧ k ≤ 28 ∧ wordN k = s ∧ (∀ j : Nat, 1 ≤ j → j < k → wordN j ≠ s) ∧ r = k) ∨ ((∀ j : Nat, 1 ≤ j → j ≤ 28 → wordN j ≠ s) ∧ r = 0)
theorem RuleIs.same {s : ByteArray} {r q : Int} (h : RuleIs s r) (h' : RuleIs s q) : r = q := by
  rcases h with ⟨k, k1, k2, k3, k4, rfl⟩ | ⟨k4, rfl⟩ <;> rcases h' with ⟨j, j1, j2, j3, j4, rfl⟩ | ⟨j4, rfl⟩
  · rcases Nat.lt_trichotomy k j with hlt | rfl | hlt
    · exact absurd k3 (j4 k k1 hlt)
    · rfl
    · exact absurd j3 (k4 j j1 hlt)
  · exact absurd k3 (j4 k k1 k2)
  · exact absurd j3 (k4 j j1 j2)
  · rfl
end Go.Proofs.YtlalolnhpcbjnaaDoor.Dv

namespace Go.Proofs.YtlalolnhpcbjnaaDoor.Dv
open Go.RowKit

/-- A derivation: its rule, its number, its kids. -/
inductive Tm where
  | mk (k i : Int) (l : List Tm)

namespace Tm
def k : Tm → Int | .mk k _ _ => k
def i : Tm → Int | .mk _ i _ => i
def kids : Tm → List Tm | .mk _ _ l => l
theorem ind {P : Tm → Prop} (h : ∀ t, (∀ x ∈ t.kids, P x) → P t) : ∀ t, P t
  | .mk k i l => h (.mk k i l) (fun x (_ : x ∈ l) => ind h x)
end Tm

def Tm.fine (t : Tm) : Prop := I64 t.k ∧ I64 t.i

/-- A term by value: s is the slice of its kids. -/
abbrev tv (t : Tm) (s : Value) : Value := .agg #[.int .i64 t.k, .int .i64 t.i, s]

/-- The three cells of a term at a place. -/
structure Node (w : World) (b o : Nat) (t : Tm) (s : Value) : Prop where
  c0 : w.cell? ⟨b, o, none⟩ = some (.int .i64 t.k)
  c1 : w.cell? ⟨b, o + 1, none⟩ = some (.int .i64 t.i)
  c2 : w.cell? ⟨b, o + 2, none⟩ = some s

/-- Terms that lie behind a slice. -/
inductive Lies (w : World) : List Tm → Value → Prop
  | mk (l : List Tm) (a : Option Addr) (cap : Nat) (S : Nat → Value) (hc : l.length ≤ cap) (hm : cap ≤ maxLen) (hf : ∀ x ∈ l, x.fine)
      (hn : ∀ i (h : i < l.length), ∃ b o, a = some ⟨b, o, none⟩ ∧ Node w b (o + i * 3) l[i] (S i)) (hk : ∀ i (h : i < l.length), Lies w (l[i]).kids (S i)) : Lies w l (.slice a l.length cap)

theorem Lies.out {w : World} {l : List Tm} {s : Value} (h : Lies w l s) : ∃ (a : Option Addr) (cap : Nat) (S : Nat → Value), s = .slice a l.length cap ∧ l.length ≤ cap ∧ cap ≤ maxLen ∧ (∀ x ∈ l, x.fine) ∧
    (∀ i (h : i < l.length), ∃ b o, a = some ⟨b, o, none⟩ ∧ Node w b (o + i * 3) l[i] (S i)) ∧ (∀ i (h : i < l.length), Lies w (l[i]).kids (S i)) := by
  cases h with
  | mk l a cap S hc hm hf hn hk => exact ⟨a, cap, S, rfl, hc, hm, hf, hn, hk⟩

theorem Node.lt {w : World} {b o : Nat} {t : Tm} {s : Value} (h : Node w b o t s) : b < w.heap.size := World.block_lt_of_cell? _ _ h.c0

theorem Node.below {w w' : World} {b o B : Nat} {t : Tm} {s : Value} (h : Node w b o t s) (hb : Below B w w') (hB : b < B) : Node w' b o t s :=
  ⟨(hb.cell (by exact hB)).trans h.c0, (hb.cell (by exact hB)).trans h.c1, (hb.cell (by exact hB)).trans h.c2⟩

/-- What lies in a world lies in every later one. -/
theorem Lies.keep {w w' : World} {l : List Tm} {s : Value} (h : Lies w l s) (hb : Below w.heap.size w w') : Lies w' l s := by
  induction h with
  | mk l a cap S hc hm hf hn hk ih =>
    exact .mk l a cap S hc hm hf (fun i hi => by obtain ⟨b, o, ha, hx⟩ := hn i hi; exact ⟨b, o, ha, hx.below hb hx.lt⟩) ih

end Go.Proofs.YtlalolnhpcbjnaaDoor.Dv

namespace Go.Proofs.YtlalolnhpcbjnaaDoor.Dv
open Go.RowKit

mutual
def Tm.size : Tm → Nat
  | .mk _ _ l => sizes l + 1
def sizes : List Tm → Nat
  | [] => 0
  | t :: r => t.size + sizes r
end

theorem Tm.size_eq (t : Tm) : t.size = sizes t.kids + 1 := by cases t; rfl

end Go.Proofs.YtlalolnhpcbjnaaDoor.Dv

namespace Go.Proofs.YtlalolnhpcbjnaaDoor.Dv

/-- A fault: of the text (0), too deep (1), too many (2); and where. -/
abbrev PF := Nat × Nat
abbrev DP := Nat → Nat → List Tok → Except PF (Tm × Nat × List Tok)
def numD (E : Nat) (r : Int) (ts : List Tok) : Except PF (Int × List Tok) :=
  if r = 1 ∨ r = 2 then (match takeT E 4 ts with
    | .error e => .error (0, e)
    | .ok (t, q) => .ok ((((getB t.s).getD 0 : Nat) : Int), q)) else .ok (0, ts)
def kidsD (dp : DP) (d : Nat) : Nat → Nat → List Tok → Except PF (List Tm × Nat × List Tok)
  | 0, u, ts => .ok ([], u, ts)
  | c + 1, u, ts => match dp d u ts with
    | .error e => .error e
    | .ok (t, u1, r) => match kidsD dp d c u1 r with
      | .error e => .error e
      | .ok (l, u2, r2) => .ok (t :: l, u2, r2)
theorem idxL_none {x : List UInt8} : ∀ {l : List (List UInt8)}, idxL x l = none → ∀ j : Nat, l[j]? ≠ some x
  | [], h, j => by simp
  | y :: r, h, j => by
    unfold idxL at h
    split at h
    · cases h
    · rename_i e
      have hp := Option.map_eq_none_iff.1 h
      match j with
      | 0 => simp only [List.getElem?_cons_zero]; exact fun h => e (Option.some.inj h)
      | j + 1 => simp only [List.getElem?_cons_succ]; exact idxL_none hp j
end Go.Proofs.YtlalolnhpcbjnaaDoor.Dv

namespace Go.Proofs.YtlalolnhpcbjnaaDoor.Dv
open Go.RowKit

/-- Terms behind a slice, in blocks of which P speaks. -/
inductive LiesP (w : World) (P : Nat → Prop) : List Tm → Value → Prop
  | mk (l : List Tm) (a : Option Addr) (cap : Nat) (S : Nat → Value) (hc : l.length ≤ cap) (hm : cap ≤ maxLen) (hf : ∀ x ∈ l, x.fine)
      (hn : ∀ i (h : i < l.length), ∃ b, a = some ⟨b, 0, none⟩ ∧ P b ∧ Node w b (i * 3) l[i] (S i)) (hk : ∀ i (h : i < l.length), LiesP w P (l[i]).kids (S i)) : LiesP w P l (.slice a l.length cap)

theorem LiesP.lies {w : World} {P : Nat → Prop} {l : List Tm} {s : Value} (h : LiesP w P l s) : Lies w l s := by
  induction h with
  | mk l a cap S hc hm hf hn hk ih => exact .mk l a cap S hc hm hf (fun i hi => by obtain ⟨b, ha, _, hx⟩ := hn i hi; exact ⟨b, 0, ha, by rw [Nat.zero_add]; exact hx⟩) ih

theorem Node.same {w w' : World} {b o : Nat} {t : Tm} {s : Value} (h : Node w b o t s) (hb : w'.heap[b]? = w.heap[b]?) : Node w' b o t s :=
  ⟨(World.cell?_of_block (a := ⟨b, o, none⟩) hb).trans h.c0, (World.cell?_of_block (a := ⟨b, o + 1, none⟩) hb).trans h.c1, (World.cell?_of_block (a := ⟨b, o + 2, none⟩) hb).trans h.c2⟩

/-- They lie in a later world where their blocks are as they were; P may be turned on the way. -/
theorem LiesP.keep {w w' : World} {P Q : Nat → Prop} {l : List Tm} {s : Value} (h : LiesP w P l s) (hb : ∀ b, P b → b < w.heap.size → w'.heap[b]? = w.heap[b]?) (hq : ∀ b, P b → b < w.heap.size → Q b) : LiesP w' Q l s := by
  induction h with
  | mk l a cap S hc hm hf hn hk ih =>
    exact .mk l a cap S hc hm hf (fun i hi => by obtain ⟨b, ha, hp, hx⟩ := hn i hi; exact ⟨b, ha, hq b hp hx.lt, hx.same (hb b hp hx.lt)⟩) ih

def cells5 : List (Tm × Value) → List Value
  | [] => []
  | (t, s) :: r => .int .i64 t.k :: .int .i64 t.i :: s :: cells5 r

theorem cells5_length : ∀ ps : List (Tm × Value), (cells5 ps).length = ps.length * 3
  | [] => rfl
  | (t, s) :: r => by simp [cells5, cells5_length r]; omega
theorem cells5_append : ∀ ps qs : List (Tm × Value), cells5 (ps ++ qs) = cells5 ps ++ cells5 qs
  | [], qs => rfl
  | (t, s) :: r, qs => by simp [cells5, cells5_append r qs]
theorem cells5_get : ∀ (ps : List (Tm × Value)) (i : Nat) (h : i < ps.length) (q : Nat), q < 3 → (cells5 ps)[i * 3 + q]? = [Value.int .i64 (ps[i]).1.k, .int .i64 (ps[i]).1.i, (ps[i]).2][q]?
  | (t, s) :: r, 0, _, q, hq => by
    rw [Nat.zero_mul, Nat.zero_add]
    match q, hq with
    | 0, _ => rfl
    | 1, _ => rfl
    | 2, _ => rfl
  | (t, s) :: r, i + 1, h, q, hq => by
    have := cells5_get r i (by simpa using h) q hq
    rw [show (i + 1) * 3 + q = (i * 3 + q) + 3 by omega]
    simpa [cells5] using this

/-- The cells of a term that was just laid into a block of its own. -/
theorem news_new (w : World) (t : Tm) (s : Value) (T : TypeId) : ∀ j u, (cells5 [(t, s)])[j]? = some u → (w.alloc (.cells #[.int .i64 t.k, .int .i64 t.i, s] T)).cell? ((⟨w.heap.size, 0, none⟩ : Addr).add j) = some u :=
  World.news_of_block (alloc_new w _)

/-- A term is stored into a block of five cells. -/
theorem five_set {w : World} {g : Nat} {T : TypeId} {z0 z1 z2 v0 v1 v2 : Value} (h : w.heap[g]? = some (.cells #[z0, z1, z2] T (0, 0))) :
    (((w.setCell ⟨g, 0, none⟩ v0).setCell ⟨g, 1, none⟩ v1).setCell ⟨g, 2, none⟩ v2).heap[g]? = some (.cells #[v0, v1, v2] T (0, 0)) :=
  heap_setCell_same _ _ _ _ _ _ (heap_setCell_same _ _ _ _ _ _ (heap_setCell_same _ _ _ _ _ _ h))

end Go.Proofs.YtlalolnhpcbjnaaDoor.Dv

namespace Go.Proofs.YtlalolnhpcbjnaaDoor.Dv
open Go.RowKit

/-- The five cells of an element, written one behind the other. -/
def put5 (w : World) (g o : Nat) (t : Tm) (s : Value) : World := ((w.setCell ⟨g, o, none⟩ (.int .i64 t.k)).setCell ⟨g, o + 1, none⟩ (.int .i64 t.i)).setCell ⟨g, o + 2, none⟩ s

theorem put5_other (w : World) (g o : Nat) (t : Tm) (s : Value) {b : Nat} (h : b ≠ g) : (put5 w g o t s).heap[b]? = w.heap[b]? := by
  unfold put5; repeat rw [Below.heap_setCell _ _ _ _ (by exact h)]
theorem put5_rest (w : World) (g o : Nat) (t : Tm) (s : Value) : (put5 w g o t s).os = w.os ∧ (put5 w g o t s).tape = w.tape ∧ (put5 w g o t s).output = w.output := by simp [put5, World.setCell]
theorem put5_size (w : World) (g o : Nat) (t : Tm) (s : Value) : (put5 w g o t s).heap.size = w.heap.size := by simp [put5, World.setCell]
theorem put5_block {w : World} {g : Nat} {cs : Array Value} {T : TypeId} (o : Nat) (t : Tm) (s : Value) (h : w.heap[g]? = some (.cells cs T (0, 0))) :
    (put5 w g o t s).heap[g]? = some (.cells (((cs.setIfInBounds o (.int .i64 t.k)).setIfInBounds (o + 1) (.int .i64 t.i)).setIfInBounds (o + 2) s) T (0, 0)) :=
  heap_setCell_same _ _ _ _ _ _ (heap_setCell_same _ _ _ _ _ _ (heap_setCell_same _ _ _ _ _ _ h))
theorem put5_out (w : World) (g o : Nat) (t : Tm) (s : Value) {q : Nat} (h : q < o ∨ o + 3 ≤ q) : (put5 w g o t s).cell? ⟨g, q, none⟩ = w.cell? ⟨g, q, none⟩ := by
  unfold put5
  repeat rw [World.cell?_setCell_other _ _ _ _ (by intro e; have := congrArg Addr.off e; simp only at this; omega)]
theorem put5_node {w : World} {g o : Nat} {t0 : Tm} {s0 : Value} (t : Tm) (s : Value) (h : Node w g o t0 s0) : Node (put5 w g o t s) g o t s := by
  have ne : ∀ p q : Nat, p ≠ q → (⟨g, p, none⟩ : Addr) ≠ ⟨g, q, none⟩ := fun p q hpq e => hpq (congrArg Addr.off e)
  unfold put5
  refine ⟨?_, ?_, ?_⟩
  · rw [World.cell?_setCell_other _ _ _ _ (ne _ _ (by omega)), World.cell?_setCell_other _ _ _ _ (ne _ _ (by omega))]
    exact World.cell?_setCell_same _ _ _ h.c0
  · rw [World.cell?_setCell_other _ _ _ _ (ne _ _ (by omega))]
    refine World.cell?_setCell_same _ _ _ (u := .int .i64 t0.i) ?_
    rw [World.cell?_setCell_other _ _ _ _ (ne _ _ (by omega))]; exact h.c1
  · refine World.cell?_setCell_same _ _ _ (u := s0) ?_
    rw [World.cell?_setCell_other _ _ _ _ (ne _ _ (by omega)), World.cell?_setCell_other _ _ _ _ (ne _ _ (by omega))]; exact h.c2
/-- Another element's cells stay. -/
theorem put5_keep {w : World} {g o o' b : Nat} {t x : Tm} {s sx : Value} (h : Node w b o' x sx) (hne : b ≠ g ∨ o' + 3 ≤ o ∨ o + 3 ≤ o') : Node (put5 w g o t s) b o' x sx := by
  by_cases hb : b = g
  · subst hb
    have hne' : o' + 3 ≤ o ∨ o + 3 ≤ o' := hne.resolve_left (fun h => h rfl)
    exact ⟨(put5_out _ _ _ _ _ (by omega)).trans h.c0, (put5_out _ _ _ _ _ (by omega)).trans h.c1, (put5_out _ _ _ _ _ (by omega)).trans h.c2⟩
  · exact h.same (put5_other _ _ _ _ _ hb)

theorem liesP_nil (w : World) (P : Nat → Prop) : LiesP w P [] (.slice none 0 0) := .mk [] none 0 (fun _ => .nilIface) (Nat.le_refl _) (by decide) (fun _ h => by cases h) (fun _ h => by cases h) (fun _ h => by cases h)

end Go.Proofs.YtlalolnhpcbjnaaDoor.Dv

namespace Go.Proofs.YtlalolnhpcbjnaaDoor.Dv
open Go.RowKit

def Tm.zero : Tm := .mk 0 0 []
theorem take_set_next {α : Type} (l : List α) (q : Nat) (x : α) (h : q < l.length) : (l.set q x).take (q + 1) = l.take q ++ [x] := by
  rw [List.take_succ_eq_append_getElem (by simpa using h), List.getElem_set_self, List.take_set_of_le (Nat.le_refl _)]
theorem five_cells {w : World} {g : Nat} {v0 v1 v2 : Value} {T : TypeId} (h : w.heap[g]? = some (.cells #[v0, v1, v2] T (0, 0))) :
    w.cell? ⟨g, 0, none⟩ = some v0 ∧ w.cell? ⟨g, 1, none⟩ = some v1 ∧ w.cell? ⟨g, 2, none⟩ = some v2 := by
  refine ⟨?_, ?_, ?_⟩ <;> (rw [cell_of_row w g _ _ _ _ h]; rfl)
theorem five_free {w : World} {g : Nat} {cs : Array Value} {T : TypeId} (h : w.heap[g]? = some (.cells cs T (0, 0))) :
    w.frozen? ⟨g, 0, none⟩ = false ∧ w.frozen? ⟨g, 1, none⟩ = false ∧ w.frozen? ⟨g, 2, none⟩ = false :=
  ⟨open_unfrozen h _, open_unfrozen h _, open_unfrozen h _⟩

theorem cells5_zeros : ∀ n : Nat, (cells5 (List.replicate n (Tm.zero, Value.slice none 0 0))) = (madeCells #[.int .i64 0, .int .i64 0, .slice none 0 0] (n * 3)).toList := by
  intro n
  apply List.ext_getElem?
  intro j
  by_cases hj : j < n * 3
  · have h5 : j % 3 < 3 := Nat.mod_lt _ (by omega)
    have hd : j / 3 < n := by omega
    have e : j = j / 3 * 3 + j % 3 := by omega
    have h1 := cells5_get (List.replicate n (Tm.zero, Value.slice none 0 0)) (j / 3) (by simpa using hd) (j % 3) h5
    rw [← e] at h1
    rw [h1]
    simp only [List.getElem_replicate]
    have hz : (madeCells #[Value.int .i64 0, .int .i64 0, .slice none 0 0] (n * 3)).toList[j]? = some (#[Value.int .i64 0, .int .i64 0, .slice none 0 0][j % 3]!) := by simp [madeCells, hj]
    rw [hz]
    generalize j % 3 = q at h5
    match q, h5 with
    | 0, _ => rfl
    | 1, _ => rfl
    | 2, _ => rfl
  · rw [List.getElem?_eq_none (by rw [cells5_length]; simp; omega), List.getElem?_eq_none (by simp [madeCells]; omega)]

theorem zero_fine : Tm.zero.fine := by simp [Tm.zero, Tm.fine, I64, Tm.k, Tm.i]
abbrev five (w : World) (g : Nat) (v0 v1 v2 : Value) : World := ((w.setCell ⟨g, 0, none⟩ v0).setCell ⟨g, 1, none⟩ v1).setCell ⟨g, 2, none⟩ v2
theorem five_other (w : World) (g : Nat) (v0 v1 v2 : Value) {b : Nat} (h : b ≠ g) : (five w g v0 v1 v2).heap[b]? = w.heap[b]? := by
  unfold five; repeat rw [Below.heap_setCell _ _ _ _ (by exact h)]
theorem below_five {B : Nat} {w w1 : World} (h : Below B w w1) {g : Nat} (hg : B ≤ g) (v0 v1 v2 : Value) : Below B w (five w1 g v0 v1 v2) :=
  ((h.setCell hg _).setCell hg _).setCell hg _
end Go.Proofs.YtlalolnhpcbjnaaDoor.Dv

namespace Go.Proofs.YtlalolnhpcbjnaaDoor.Dv

def kindAt (L : List Tok) (p : Nat) : Nat := (L[p]?.map (·.k)).getD 0
def wordAt (L : List Tok) (p : Nat) : List UInt8 := (L[p]?.map (·.s)).getD []
def placeAt (L : List Tok) (E : Nat) (p : Nat) : Nat := (L[p]?.map (·.at_)).getD E
/-- The page's parser: where it stands, the token at fault, the nodes used up, the allowance at an end (0: none, 1: deep, 2: nodes). -/
structure XS where
  p : Nat
  bad : Option Nat
  n : Nat
  word : Nat
def XS.fail (s : XS) : XS := match s.bad with
  | none => { s with bad := some s.p }
  | some _ => s
def XS.next (s : XS) : XS := { s with p := s.p + 1 }
def wantX (L : List Tok) (k : Nat) (s : XS) : List UInt8 × XS := match s.bad with
  | some _ => ([], s)
  | none => if kindAt L s.p = k then (wordAt L s.p, s.next) else ([], s.fail)
abbrev DX := Nat → XS → Tm × XS
def zeroX : Tm := .mk 0 0 []
def kidsX (dx : DX) (d : Nat) : Nat → XS → List Tm × XS
  | 0, s => ([], s)
  | c + 1, s => ((dx d s).1 :: (kidsX dx d c (dx d s).2).1, (kidsX dx d c (dx d s).2).2)
def numX (L : List Tok) (r : Int) (s : XS) : Int × XS :=
  if r = 1 ∨ r = 2 then ((((getB (wantX L 4 s).1).getD 0 : Nat) : Int), (wantX L 4 s).2) else (0, s)
/-- Behind the word of a rule. -/
def restX (L : List Tok) (dx : DX) (d : Nat) (r : Int) (s : XS) : Tm × XS :=
  (.mk r (numX L r s).1 (kidsX dx (d + 1) (dkidsN r).toNat (numX L r s).2).1, (wantX L 2 (kidsX dx (d + 1) (dkidsN r).toNat (numX L r s).2).2).2)
/-- What the one reads beside what the other reads. -/
def SameX {α β : Type} (L : List Tok) (E : Nat) (g : α → β) (x : Except PF (α × Nat × List Tok)) (y : β × XS) : Prop := match x with
  | .ok (t, u, r) => y.1 = g t ∧ y.2.bad = none ∧ y.2.n = u ∧ y.2.word = 0 ∧ L.drop y.2.p = r
  | .error (k, a) => ∃ b, y.2.bad = some b ∧ placeAt L E b = a ∧ y.2.word = k
theorem kind_cons {L : List Tok} {E p : Nat} {t : Tok} {r : List Tok} (h : L.drop p = t :: r) : kindAt L p = t.k ∧ wordAt L p = t.s ∧ placeAt L E p = t.at_ ∧ L.drop (p + 1) = r := by
  have h1 : L[p]? = some t := by
    have := List.getElem?_drop (xs := L) (i := p) (j := 0)
    rw [h] at this
    simpa using this.symm
  refine ⟨by simp [kindAt, h1], by simp [wordAt, h1], by simp [placeAt, h1], ?_⟩
  have : L.drop (p + 1) = (L.drop p).drop 1 := by rw [List.drop_drop]
  rw [this, h]; rfl
theorem kind_nil {L : List Tok} {p : Nat} (h : L.drop p = []) : kindAt L p = 0 ∧ ∀ E, placeAt L E p = E := by
  have h1 : L[p]? = none := by
    rw [List.getElem?_eq_none]
    simpa using h
  exact ⟨by simp [kindAt, h1], fun E => by simp [placeAt, h1]⟩
theorem want_is {L : List Tok} {E k : Nat} (hk : k ≠ 0) (s : XS) (hb : s.bad = none) : match takeT E k (L.drop s.p) with
    | .ok (t, r) => wantX L k s = (t.s, s.next) ∧ L.drop (s.p + 1) = r ∧ kindAt L s.p = k ∧ wordAt L s.p = t.s
    | .error a => wantX L k s = ([], { s with bad := some s.p }) ∧ placeAt L E s.p = a ∧ (kindAt L s.p ≠ k) := by
  cases h : L.drop s.p with
  | nil =>
    obtain ⟨h1, h2⟩ := kind_nil h
    simp only [takeT]
    refine ⟨?_, h2 E, by rw [h1]; exact fun e => hk e.symm⟩
    unfold wantX XS.fail
    rw [hb]
    simp only
    rw [if_neg (by rw [h1]; exact fun e => hk e.symm)]
  | cons t r =>
    obtain ⟨h1, h2, h3, h4⟩ := kind_cons (E := E) h
    simp only [takeT]
    by_cases hc : t.k = k
    · rw [if_pos hc]
      refine ⟨?_, h4, by rw [h1, hc], h2⟩
      unfold wantX
      rw [hb]
      simp only
      rw [if_pos (by rw [h1, hc]), h2]
    · rw [if_neg hc]
      refine ⟨?_, h3, by rw [h1]; exact hc⟩
      unfold wantX XS.fail
      rw [hb]
      simp only
      rw [if_neg (by rw [h1]; exact hc)]
theorem want_bad {L : List Tok} {k b : Nat} {s : XS} (h : s.bad = some b) : wantX L k s = ([], s) := by unfold wantX; rw [h]
def Sticks (dx : DX) : Prop := ∀ d s b, s.bad = some b → dx d s = (zeroX, s)
theorem kidsX_sticks {dx : DX} (h : Sticks dx) {d : Nat} : ∀ {c : Nat} {s : XS} {b : Nat}, s.bad = some b → (kidsX dx d c s).2 = s
  | 0, s, b, hb => rfl
  | c + 1, s, b, hb => by
    unfold kidsX
    rw [h d s b hb]
    exact kidsX_sticks h hb
/-- Where it stands the one reads as the other. -/
def DXOk (L : List Tok) (E : Nat) (dp : DP) (dx : DX) : Prop := ∀ d (s : XS), s.bad = none → s.word = 0 → SameX L E id (dp d s.n (L.drop s.p)) (dx d s)
theorem kidsX_ok {L : List Tok} {E : Nat} {dp : DP} {dx : DX} (hs : Sticks dx) (h : DXOk L E dp dx) {d : Nat} : ∀ {c : Nat} {s : XS}, s.bad = none → s.word = 0 → SameX L E id (kidsD dp d c s.n (L.drop s.p)) (kidsX dx d c s)
  | 0, s, hb, hw => ⟨rfl, hb, rfl, hw, rfl⟩
  | c + 1, s, hb, hw => by
    have h1 := h d s hb hw
    unfold kidsD kidsX
    cases hx : dp d s.n (L.drop s.p) with
    | error p =>
      obtain ⟨k, a⟩ := p
      rw [hx] at h1
      obtain ⟨b, e1, e2, e3⟩ := h1
      exact ⟨b, by dsimp only; rw [kidsX_sticks hs e1]; exact e1, e2, by dsimp only; rw [kidsX_sticks hs e1]; exact e3⟩
    | ok q =>
      obtain ⟨t, u, r⟩ := q
      rw [hx] at h1
      obtain ⟨e1, e2, e3, e4, e5⟩ := h1
      have h2 := kidsX_ok hs h (d := d) (c := c) e2 e4
      rw [e3, e5] at h2
      dsimp only
      cases hy : kidsD dp d c u r with
      | error p =>
        obtain ⟨k, a⟩ := p
        rw [hy] at h2
        exact h2
      | ok q =>
        obtain ⟨l, u2, r2⟩ := q
        rw [hy] at h2
        obtain ⟨g1, g2, g3, g4, g5⟩ := h2
        exact ⟨by dsimp only; rw [e1, g1]; rfl, g2, g3, g4, g5⟩
theorem restX_ok {L : List Tok} {E : Nat} {dp : DP} {dx : DX} (hs : Sticks dx) (h : DXOk L E dp dx) {d : Nat} {R : Int} {s : XS} (hb : s.bad = none) (hw : s.word = 0) : SameX L E id (match numD E R (L.drop s.p) with
    | .error e => .error e
    | .ok (n, r2) => match kidsD dp (d + 1) (dkidsN R).toNat s.n r2 with
      | .error e => .error e
      | .ok (l, u2, r3) => match takeT E 2 r3 with
        | .error e => .error (0, e)
        | .ok (_, r4) => .ok (.mk R n l, u2, r4)) (restX L dx d R s) := by
  have hn : match numD E R (L.drop s.p) with
      | .error (k, a) => k = 0 ∧ ∃ b, (numX L R s).2.bad = some b ∧ placeAt L E b = a ∧ (numX L R s).2.word = 0
      | .ok (n, r2) => (numX L R s).1 = n ∧ (numX L R s).2.bad = none ∧ (numX L R s).2.n = s.n ∧ (numX L R s).2.word = 0 ∧ L.drop (numX L R s).2.p = r2 := by
    by_cases hR : R = 1 ∨ R = 2
    · simp only [numD, numX, if_pos hR]
      have h1 := want_is (L := L) (E := E) (k := 4) (by decide) s hb
      cases hx : takeT E 4 (L.drop s.p) with
      | error a =>
        rw [hx] at h1
        obtain ⟨e1, e2, -⟩ := h1
        exact ⟨rfl, s.p, by rw [e1], e2, by rw [e1]; exact hw⟩
      | ok q =>
        obtain ⟨t, r⟩ := q
        rw [hx] at h1
        obtain ⟨e1, e2, -⟩ := h1
        exact ⟨by rw [e1], by rw [e1]; exact hb, by rw [e1]; rfl, by rw [e1]; exact hw, by rw [e1]; exact e2⟩
    · simp only [numD, numX, if_neg hR]
      exact ⟨trivial, hb, trivial, hw, trivial⟩
  unfold restX
  generalize numX L R s = z at hn
  cases hx : numD E R (L.drop s.p) with
  | error p =>
    obtain ⟨k, a⟩ := p
    rw [hx] at hn
    obtain ⟨rfl, b, e1, e2, e3⟩ := hn
    have e4 := kidsX_sticks hs (d := d + 1) (c := (dkidsN R).toNat) e1
    refine ⟨b, ?_, e2, ?_⟩
    · dsimp only; rw [e4, want_bad e1]; exact e1
    · dsimp only; rw [e4, want_bad e1]; exact e3
  | ok q =>
    obtain ⟨n, r2⟩ := q
    rw [hx] at hn
    obtain ⟨e1, e2, e3, e4, e5⟩ := hn
    have hk := kidsX_ok hs h (d := d + 1) (c := (dkidsN R).toNat) e2 e4
    rw [e3, e5] at hk
    dsimp only
    generalize kidsX dx (d + 1) (dkidsN R).toNat z.2 = y at hk
    cases hy : kidsD dp (d + 1) (dkidsN R).toNat s.n r2 with
    | error p =>
      obtain ⟨k, a⟩ := p
      rw [hy] at hk
      obtain ⟨b, g1, g2, g3⟩ := hk
      refine ⟨b, ?_, g2, ?_⟩
      · dsimp only; rw [want_bad g1]; exact g1
      · dsimp only; rw [want_bad g1]; exact g3
    | ok q =>
      obtain ⟨l, u2, r3⟩ := q
      rw [hy] at hk
      obtain ⟨g1, g2, g3, g4, g5⟩ := hk
      have h1 := want_is (L := L) (E := E) (k := 2) (by decide) y.2 g2
      rw [g5] at h1
      dsimp only
      cases ht : takeT E 2 r3 with
      | error a =>
        rw [ht] at h1
        obtain ⟨k1, k2, -⟩ := h1
        exact ⟨y.2.p, by dsimp only; rw [k1], k2, by dsimp only; rw [k1]; exact g4⟩
      | ok q =>
        obtain ⟨t, r⟩ := q
        rw [ht] at h1
        obtain ⟨k1, k2, -⟩ := h1
        exact ⟨by dsimp only; rw [e1, g1]; rfl, by dsimp only; rw [k1]; exact g2, by dsimp only; rw [k1]; exact g3, by dsimp only; rw [k1]; exact g4, by dsimp only; rw [k1]; exact k2⟩
theorem here_place {L : List Tok} {E p : Nat} : placeAt L E p = hereT E (L.drop p) := by
  cases h : L.drop p with
  | nil => exact (kind_nil h).2 E
  | cons t r => exact (kind_cons (E := E) h).2.2.1
end Go.Proofs.YtlalolnhpcbjnaaDoor.Dv

namespace Go.Proofs.YtlalolnhpcbjnaaDoor.Rt
open Dv (XS kindAt wordAt placeAt wantX kind_cons kind_nil want_is want_bad here_place)

def sucW : List UInt8 := [115, 117, 99]
def maxW : List UInt8 := [109, 97, 120]
def failAt (q : Nat) (s : XS) : XS := match s.bad with
  | none => { s with bad := some q }
  | some _ => s
/-- A level's list behind its bracket. -/
def levQ (lx : XS → Int × XS) (L : List Tok) (s : XS) : Int × XS :=
  if kindAt L s.p = 3 ∧ (wordAt L s.p = sucW ∨ wordAt L s.p = maxW) then
    (if wordAt L s.p = sucW then ((lx s.next).1 + 1, (wantX L 2 (lx s.next).2).2)
    else (max (lx s.next).1 (lx (lx s.next).2).1, (wantX L 2 (lx (lx s.next).2).2).2))
  else (0, s.fail)
def levN (lx : XS → Int × XS) (L : List Tok) (i j : Int) (s : XS) : Int × XS :=
  if kindAt L s.p = 4 then ((((getB (wordAt L s.p)).getD 0 : Nat) : Int), s.next)
  else if kindAt L s.p = 3 ∧ wordAt L s.p = [105] then (i, s.next)
  else if kindAt L s.p = 3 ∧ wordAt L s.p = [106] then (j, s.next)
  else if kindAt L s.p = 1 then levQ lx L s.next
  else (0, s.fail)
def levE (p0 : Nat) (x : Int × XS) : Int × XS :=
  if (if 1000 < x.1 then failAt p0 x.2 else x.2).bad = none then (x.1, if 1000 < x.1 then failAt p0 x.2 else x.2) else (0, if 1000 < x.1 then failAt p0 x.2 else x.2)
def levX (L : List Tok) (i j : Int) : Nat → XS → Int × XS
  | 0, s => (0, s.fail)
  | f + 1, s => match s.bad with
    | some _ => (0, s)
    | none => levE s.p (levN (levX L i j f) L i j s)
abbrev TX := Int → Names → XS → Tm × XS
/-- The kids from the p-th on, c of them; x: the names that are pushed. -/
def kidsX (tx : TX) (L : List Tok) (k own : Int) : Names → Nat → Nat → Names → XS → List Tm × XS
  | _, _, 0, _, s => ([], s)
  | x, p, c + 1, N, s =>
    let s0 := if k = 22 ∧ p = 2 then (wantX L 3 (wantX L 3 s).2).2 else s
    let x0 := if k = 22 ∧ p = 2 then [(wantX L 3 (wantX L 3 s).2).1, (wantX L 3 s).1] else x
    let t := tx (if k = 12 ∧ p = 2 then 2 else own) (if bindsN k p = 0 then N else x0 ++ N) s0
    let l := kidsX tx L k own x0 (p + 1) c N t.2
    (t.1 :: l.1, l.2)
def ownS (k : Int) : Int := if k ≤ 12 then 1 else 2
/-- Behind the word of a list, and behind the symbol of a use. -/
def restX (lx : XS → Int × XS) (tx : TX) (L : List Tok) (k n : Int) (N : Names) (s : XS) : Tm × XS :=
  let a := if 0 < levelsN k then lx s else (0, s)
  let b := if 1 < levelsN k then lx a.2 else (0, a.2)
  let x := if bindsN k 1 = 1 then wantX L 3 b.2 else ([], b.2)
  let kd := kidsX tx L k (ownS k) (if bindsN k 1 = 1 then [x.1] else []) 0 (kidsN k n).toNat N x.2
  (.mk k a.1 b.1 n kd.1, (wantX L 2 kd.2).2)
def bodyX (lx : XS → Int × XS) (tx : TX) (L : List Tok) (k : Int) (N : Names) (s : XS) : Tm × XS :=
  if k = 23 then (if kindAt L s.p = 3 ∧ symN (wordAt L s.p) ≠ 0 then restX lx tx L k (symN (wordAt L s.p)) N s.next else (Tm.zero, s.fail))
  else restX lx tx L k 0 N s
def listK (L : List Tok) (so : Int) (s : XS) : Int :=
  if kindAt L s.p = 3 ∧ ¬ (headN (wordAt L s.p) = 0 ∨ (sortN (headN (wordAt L s.p)) ≠ 0 ∧ so ≠ 0 ∧ sortN (headN (wordAt L s.p)) ≠ so)) then headN (wordAt L s.p) else 0
def termX (L : List Tok) (i j : Int) : Nat → TX
  | 0, _, _, s => (Tm.zero, s.fail)
  | f + 1, so, N, s => match s.bad with
    | some _ => (Tm.zero, s)
    | none => if kindAt L s.p = 3 then (match idxL (wordAt L s.p) N with
        | some q => (.mk 2 q 0 0 [], s.next)
        | none => (Tm.zero, s.fail))
      else if kindAt L s.p = 1 then
        (if listK L so s.next = 0 then (Tm.zero, s.next.fail) else bodyX (levX L i j f) (termX L i j f) L (listK L so s.next) N s.next.next)
      else (Tm.zero, s.fail)

/-- What the one reads beside what the other reads. -/
def SameR {α : Type} (L : List Tok) (E : Nat) (x : Except Nat (α × List Tok)) (y : α × XS) : Prop := match x with
  | .ok (t, r) => y.1 = t ∧ y.2.bad = none ∧ L.drop y.2.p = r
  | .error a => ∃ b, y.2.bad = some b ∧ placeAt L E b = a
def StickL (lx : XS → Int × XS) : Prop := ∀ s b, s.bad = some b → lx s = (0, s)
theorem levX_sticks (L : List Tok) (i j : Int) : ∀ f, StickL (levX L i j f)
  | 0 => fun s b h => by unfold levX XS.fail; rw [h]
  | f + 1 => fun s b h => by unfold levX; rw [h]
theorem fail_none {s : XS} (h : s.bad = none) : s.fail.bad = some s.p := by unfold XS.fail; rw [h]
theorem want_2 {L : List Tok} {k b : Nat} {s : XS} (h : s.bad = some b) : (wantX L k s).2 = s := by rw [want_bad h]
def LvOk (L : List Tok) (E : Nat) (lv : List Tok → Except Nat (Int × List Tok)) (lx : XS → Int × XS) : Prop := ∀ s : XS, s.bad = none → SameR L E (lv (L.drop s.p)) (lx s)
theorem levQ_ok {L : List Tok} {E : Nat} {lv : List Tok → Except Nat (Int × List Tok)} {lx : XS → Int × XS} (hs : StickL lx) (h : LvOk L E lv lx) {s : XS} (hb : s.bad = none) : SameR L E (numQ lv E (L.drop s.p)) (levQ lx L s) := by
  unfold numQ levQ
  have h1 := want_is (L := L) (E := E) (k := 3) (by decide) s hb
  cases hx : takeT E 3 (L.drop s.p) with
  | error a =>
    rw [hx] at h1
    obtain ⟨-, e2, e3⟩ := h1
    rw [if_neg (fun e => e3 e.1)]
    exact ⟨s.p, fail_none hb, e2⟩
  | ok q =>
    obtain ⟨t, r⟩ := q
    have hpl : placeAt L E s.p = t.at_ := (kind_cons (E := E) (takeT_eq hx).1).2.2.1
    rw [hx] at h1
    obtain ⟨-, e2, e3, e4⟩ := h1
    rw [e4]
    dsimp only
    have hn := h s.next hb
    rw [show s.next.p = s.p + 1 from rfl, e2] at hn
    by_cases w1 : t.s = sucW
    · rw [if_pos (show t.s = [115, 117, 99] from w1), if_pos (show kindAt L s.p = 3 ∧ (t.s = sucW ∨ t.s = maxW) from ⟨e3, Or.inl w1⟩), if_pos w1]
      cases hy : lv r with
      | error a =>
        rw [hy] at hn
        obtain ⟨b, g1, g2⟩ := hn
        exact ⟨b, by dsimp only; rw [want_2 g1]; exact g1, g2⟩
      | ok q =>
        obtain ⟨n, r3⟩ := q
        rw [hy] at hn
        obtain ⟨g1, g2, g3⟩ := hn
        have h2 := want_is (L := L) (E := E) (k := 2) (by decide) (lx s.next).2 g2
        rw [g3] at h2
        dsimp only
        cases hz : takeT E 2 r3 with
        | error a =>
          rw [hz] at h2
          obtain ⟨k1, k2, -⟩ := h2
          exact ⟨(lx s.next).2.p, by dsimp only; rw [k1], k2⟩
        | ok q =>
          obtain ⟨t2, r4⟩ := q
          rw [hz] at h2
          obtain ⟨k1, k2, -⟩ := h2
          exact ⟨by dsimp only; rw [g1], by dsimp only; rw [k1]; exact g2, by dsimp only; rw [k1]; exact k2⟩
    · by_cases w2 : t.s = maxW
      · rw [if_neg (show ¬ t.s = [115, 117, 99] from w1), if_pos (show t.s = [109, 97, 120] from w2), if_pos (show kindAt L s.p = 3 ∧ (t.s = sucW ∨ t.s = maxW) from ⟨e3, Or.inr w2⟩), if_neg w1]
        cases hy : lv r with
        | error a =>
          rw [hy] at hn
          obtain ⟨b, g1, g2⟩ := hn
          exact ⟨b, by dsimp only; rw [hs _ _ g1]; dsimp only; rw [want_2 g1]; exact g1, g2⟩
        | ok q =>
          obtain ⟨n, r3⟩ := q
          rw [hy] at hn
          obtain ⟨g1, g2, g3⟩ := hn
          have hm := h (lx s.next).2 g2
          rw [g3] at hm
          dsimp only
          cases hy2 : lv r3 with
          | error a =>
            rw [hy2] at hm
            obtain ⟨b, k1, k2⟩ := hm
            exact ⟨b, by dsimp only; rw [want_2 k1]; exact k1, k2⟩
          | ok q =>
            obtain ⟨m, r4⟩ := q
            rw [hy2] at hm
            obtain ⟨k1, k2, k3⟩ := hm
            have h2 := want_is (L := L) (E := E) (k := 2) (by decide) (lx (lx s.next).2).2 k2
            rw [k3] at h2
            dsimp only
            cases hz : takeT E 2 r4 with
            | error a =>
              rw [hz] at h2
              obtain ⟨m1, m2, -⟩ := h2
              exact ⟨(lx (lx s.next).2).2.p, by dsimp only; rw [m1], m2⟩
            | ok q =>
              obtain ⟨t2, r5⟩ := q
              rw [hz] at h2
              obtain ⟨m1, m2, -⟩ := h2
              exact ⟨by dsimp only; rw [g1, k1], by dsimp only; rw [m1]; exact k2, by dsimp only; rw [m1]; exact m2⟩
      · rw [if_neg (show ¬ t.s = [115, 117, 99] from w1), if_neg (show ¬ t.s = [109, 97, 120] from w2), if_neg (show ¬ (kindAt L s.p = 3 ∧ (t.s = sucW ∨ t.s = maxW)) from fun e => e.2.elim w1 w2)]
        exact ⟨s.p, fail_none hb, hpl⟩
theorem drop_kind {L : List Tok} {p : Nat} : (L.drop p = [] ∧ kindAt L p = 0 ∧ ∀ E, placeAt L E p = E) ∨ ∃ t r, L.drop p = t :: r ∧ kindAt L p = t.k ∧ wordAt L p = t.s ∧ (∀ E, placeAt L E p = t.at_) ∧ L.drop (p + 1) = r := by
  cases h : L.drop p with
  | nil => exact Or.inl ⟨rfl, kind_nil h⟩
  | cons t r =>
    obtain ⟨h1, h2, -, h4⟩ := kind_cons (E := 0) h
    exact Or.inr ⟨t, r, rfl, h1, h2, fun E => (kind_cons (E := E) h).2.2.1, h4⟩
theorem levN_ok {L : List Tok} {E : Nat} {i j : Int} {lv : List Tok → Except Nat (Int × List Tok)} {lx : XS → Int × XS} (hs : StickL lx) (h : LvOk L E lv lx) {s : XS} (hb : s.bad = none) : SameR L E (numP lv E i j (L.drop s.p)) (levN lx L i j s) := by
  rcases drop_kind (L := L) (p := s.p) with ⟨h0, h1, h2⟩ | ⟨t, r, h0, h1, h2, h3, h4⟩
  · rw [h0]
    unfold numP levN
    rw [h1]
    dsimp only
    simp only [show ¬ (0 : Nat) = 4 by omega, show ¬ (0 : Nat) = 3 by omega, show ¬ (0 : Nat) = 1 by omega, false_and, if_false]
    exact ⟨s.p, fail_none hb, h2 E⟩
  · rw [h0]
    unfold numP levN
    rw [h1, h2]
    dsimp only
    have err : SameR L E (.error t.at_ : Except Nat (Int × List Tok)) ((0 : Int), s.fail) := ⟨s.p, fail_none hb, h3 E⟩
    have okn : ∀ n : Int, SameR L E (.ok (n, r)) (n, s.next) := fun n => ⟨rfl, hb, h4⟩
    by_cases k4 : t.k = 4
    · rw [if_pos k4, if_pos k4]; exact okn _
    · rw [if_neg k4, if_neg k4]
      by_cases k3 : t.k = 3
      · rw [if_pos k3]
        by_cases w1 : t.s = [105]
        · rw [if_pos w1, if_pos (show t.k = 3 ∧ t.s = [105] from ⟨k3, w1⟩)]; exact okn _
        · rw [if_neg w1, if_neg (show ¬ (t.k = 3 ∧ t.s = [105]) from fun e => w1 e.2)]
          by_cases w2 : t.s = [106]
          · rw [if_pos w2, if_pos (show t.k = 3 ∧ t.s = [106] from ⟨k3, w2⟩)]; exact okn _
          · rw [if_neg w2, if_neg (show ¬ (t.k = 3 ∧ t.s = [106]) from fun e => w2 e.2), if_neg (show ¬ t.k = 1 by omega)]; exact err
      · rw [if_neg k3, if_neg (show ¬ (t.k = 3 ∧ t.s = [105]) from fun e => k3 e.1), if_neg (show ¬ (t.k = 3 ∧ t.s = [106]) from fun e => k3 e.1)]
        by_cases k1 : t.k = 1
        · rw [if_pos k1, if_pos k1]
          have := levQ_ok hs h (s := s.next) hb
          rw [show s.next.p = s.p + 1 from rfl, h4] at this
          exact this
        · rw [if_neg k1, if_neg k1]; exact err
theorem levX_ok {L : List Tok} {E : Nat} {i j : Int} : ∀ f, LvOk L E (levelP E i j f) (levX L i j f)
  | 0 => fun s hb => ⟨s.p, fail_none hb, here_place⟩
  | f + 1 => fun s hb => by
    have h := levN_ok (i := i) (j := j) (levX_sticks L i j f) (levX_ok (E := E) f) hb
    unfold levelP levX
    rw [hb]
    dsimp only
    generalize levN (levX L i j f) L i j s = y at h
    cases hx : numP (levelP E i j f) E i j (L.drop s.p) with
    | error a =>
      rw [hx] at h
      obtain ⟨b, h1, h2⟩ := h
      have hf : (if 1000 < y.1 then failAt s.p y.2 else y.2) = y.2 := by
        split
        · unfold failAt; rw [h1]
        · rfl
      refine ⟨b, ?_, h2⟩
      unfold levE
      rw [hf, if_neg (by rw [h1]; simp)]
      exact h1
    | ok q =>
      obtain ⟨n, r⟩ := q
      rw [hx] at h
      obtain ⟨h1, h2, h3⟩ := h
      dsimp only
      unfold levE
      rw [h1]
      by_cases hn : 1000 < n
      · rw [if_pos hn]
        simp only [if_pos hn]
        have hf : (failAt s.p y.2).bad = some s.p := by unfold failAt; rw [h2]
        rw [if_neg (by rw [hf]; simp)]
        exact ⟨s.p, hf, here_place⟩
      · rw [if_neg hn]
        simp only [if_neg hn]
        rw [if_pos h2]
        exact ⟨rfl, h2, h3⟩
def StickT (tx : TX) : Prop := ∀ so N s b, s.bad = some b → tx so N s = (Tm.zero, s)
theorem termX_sticks (L : List Tok) (i j : Int) : ∀ f, StickT (termX L i j f)
  | 0 => fun so N s b h => by unfold termX XS.fail; rw [h]
  | f + 1 => fun so N s b h => by unfold termX; rw [h]
theorem kidsX_sticks {tx : TX} (hs : StickT tx) {L : List Tok} {k own : Int} : ∀ {c p : Nat} {x N : Names} {s : XS} {b : Nat}, s.bad = some b → (kidsX tx L k own x p c N s).2 = s
  | 0, p, x, N, s, b, h => rfl
  | c + 1, p, x, N, s, b, h => by
    unfold kidsX
    dsimp only
    have e : (if k = 22 ∧ p = 2 then (wantX L 3 (wantX L 3 s).2).2 else s) = s := by
      split
      · rw [want_2 h, want_2 h]
      · rfl
    rw [e, hs _ _ _ _ h]
    exact kidsX_sticks hs h
def TxOk (L : List Tok) (E : Nat) (tp : Int → Names → List Tok → Except Nat (Tm × List Tok)) (tx : TX) : Prop := ∀ so N (s : XS), s.bad = none → SameR L E (tp so N (L.drop s.p)) (tx so N s)
theorem kidsX_ok {L : List Tok} {E : Nat} {tp : Int → Names → List Tok → Except Nat (Tm × List Tok)} {tx : TX} (hs : StickT tx) (h : TxOk L E tp tx) {k own : Int} (hk : k ≠ 22) {X : List UInt8} {x : Names} (hX : ∀ q : Nat, bindsN k q ≠ 0 → x = [X]) {N : Names} :
    ∀ {c p : Nat} {s : XS}, s.bad = none → SameR L E (kidsP tp k own X p c N (L.drop s.p)) (kidsX tx L k own x p c N s)
  | 0, p, s, hb => ⟨rfl, hb, rfl⟩
  | c + 1, p, s, hb => by
    unfold kidsP kidsX
    dsimp only
    simp only [show ¬ (k = 22 ∧ p = 2) from fun e => hk e.1, if_false]
    have eN : (if bindsN k p = 0 then N else x ++ N) = (if bindsN k p = 0 then N else X :: N) := by
      split
      · rfl
      · rename_i e
        rw [hX p e]; rfl
    rw [eN]
    have h1 := h (if k = 12 ∧ p = 2 then 2 else own) (if bindsN k p = 0 then N else X :: N) s hb
    cases hx : tp (if k = 12 ∧ p = 2 then 2 else own) (if bindsN k p = 0 then N else X :: N) (L.drop s.p) with
    | error a =>
      rw [hx] at h1
      obtain ⟨b, e1, e2⟩ := h1
      exact ⟨b, by dsimp only; rw [kidsX_sticks hs e1]; exact e1, e2⟩
    | ok q =>
      obtain ⟨t, r⟩ := q
      rw [hx] at h1
      obtain ⟨e1, e2, e3⟩ := h1
      have h2 := kidsX_ok hs h hk hX (N := N) (own := own) (c := c) (p := p + 1) e2
      rw [e3] at h2
      dsimp only
      cases hy : kidsP tp k own X (p + 1) c N r with
      | error a =>
        rw [hy] at h2
        exact h2
      | ok q =>
        obtain ⟨l, r2⟩ := q
        rw [hy] at h2
        obtain ⟨g1, g2, g3⟩ := h2
        exact ⟨by dsimp only; rw [e1, g1], g2, g3⟩
/-- One reading behind another. -/
theorem SameR.bind {α β : Type} {L : List Tok} {E : Nat} {x : Except Nat (α × List Tok)} {y : α × XS} (h : SameR L E x y) {f : α → List Tok → Except Nat (β × List Tok)} {g : α × XS → β × XS} (hok : ∀ r, x = .ok (y.1, r) → y.2.bad = none → L.drop y.2.p = r → SameR L E (f y.1 r) (g y)) (hbad : ∀ b, y.2.bad = some b → (g y).2 = y.2) :
    SameR L E (match x with | .error e => .error e | .ok (a, r) => f a r) (g y) := by
  cases x with
  | error a =>
    obtain ⟨b, e1, e2⟩ := h
    exact ⟨b, by rw [hbad b e1]; exact e1, e2⟩
  | ok q =>
    obtain ⟨t, r⟩ := q
    obtain ⟨e1, e2, e3⟩ := h
    subst e1
    exact hok r rfl e2 e3
end Go.Proofs.YtlalolnhpcbjnaaDoor.Rt

namespace Go.Proofs.YtlalolnhpcbjnaaDoor.Rt
open Dv (XS kindAt wordAt placeAt wantX kind_cons kind_nil want_is want_bad here_place)

/-- The kids of a J behind the second. -/
theorem kidsJ_ok {L : List Tok} {E : Nat} {tp : Int → Names → List Tok → Except Nat (Tm × List Tok)} {tx : TX} (hs : StickT tx) (h : TxOk L E tp tx) {N : Names} {s : XS} (hb : s.bad = none) : SameR L E (kidsJ tp E N (L.drop s.p)) (kidsX tx L 22 2 [] 0 6 N s) := by
  have st : ∀ {x : Names} {p c : Nat} {s' : XS} {b : Nat}, s'.bad = some b → (kidsX tx L 22 2 x p c N s').2 = s' := fun e => kidsX_sticks hs e
  unfold kidsJ
  -- the first
  have e0 : kidsX tx L 22 2 [] 0 6 N s = ((tx 2 N s).1 :: (kidsX tx L 22 2 [] 1 5 N (tx 2 N s).2).1, (kidsX tx L 22 2 [] 1 5 N (tx 2 N s).2).2) := by
    rw [kidsX]
    simp
  rw [e0]
  have h0 := h 2 N s hb
  generalize tx 2 N s = y0 at h0
  cases hx0 : tp 2 N (L.drop s.p) with
  | error a =>
    rw [hx0] at h0
    obtain ⟨b, g1, g2⟩ := h0
    exact ⟨b, by dsimp only; rw [st g1]; exact g1, g2⟩
  | ok q =>
  obtain ⟨a, r1⟩ := q
  rw [hx0] at h0
  obtain ⟨g1, g2, g3⟩ := h0
  dsimp only
  -- the second
  have e1 : kidsX tx L 22 2 [] 1 5 N y0.2 = ((tx 2 N y0.2).1 :: (kidsX tx L 22 2 [] 2 4 N (tx 2 N y0.2).2).1, (kidsX tx L 22 2 [] 2 4 N (tx 2 N y0.2).2).2) := by
    rw [kidsX]
    simp
  rw [e1]
  have h1 := h 2 N y0.2 g2
  rw [g3] at h1
  generalize tx 2 N y0.2 = y1 at h1
  cases hx1 : tp 2 N r1 with
  | error a =>
    rw [hx1] at h1
    obtain ⟨b, k1, k2⟩ := h1
    exact ⟨b, by dsimp only; rw [st k1]; exact k1, k2⟩
  | ok q =>
  obtain ⟨u, r2⟩ := q
  rw [hx1] at h1
  obtain ⟨k1, k2, k3⟩ := h1
  dsimp only
  -- the names
  have e2 : kidsX tx L 22 2 [] 2 4 N y1.2 = ((tx 2 ([(wantX L 3 (wantX L 3 y1.2).2).1, (wantX L 3 y1.2).1] ++ N) (wantX L 3 (wantX L 3 y1.2).2).2).1 :: (kidsX tx L 22 2 [(wantX L 3 (wantX L 3 y1.2).2).1, (wantX L 3 y1.2).1] 3 3 N (tx 2 ([(wantX L 3 (wantX L 3 y1.2).2).1, (wantX L 3 y1.2).1] ++ N) (wantX L 3 (wantX L 3 y1.2).2).2).2).1, (kidsX tx L 22 2 [(wantX L 3 (wantX L 3 y1.2).2).1, (wantX L 3 y1.2).1] 3 3 N (tx 2 ([(wantX L 3 (wantX L 3 y1.2).2).1, (wantX L 3 y1.2).1] ++ N) (wantX L 3 (wantX L 3 y1.2).2).2).2).2) := by
    rw [kidsX]
    simp [show bindsN 22 2 = 2 from rfl]
  rw [e2]
  have w1 := want_is (L := L) (E := E) (k := 3) (by decide) y1.2 k2
  rw [k3] at w1
  cases hw1 : takeT E 3 r2 with
  | error a =>
    rw [hw1] at w1
    obtain ⟨m1, m2, -⟩ := w1
    have mb : ({ y1.2 with bad := some y1.2.p } : XS).bad = some y1.2.p := rfl
    refine ⟨y1.2.p, ?_, m2⟩
    dsimp only
    rw [m1, want_2 mb, hs _ _ _ _ mb, st mb]
  | ok q =>
  obtain ⟨yt, r3⟩ := q
  rw [hw1] at w1
  obtain ⟨m1, m2, -⟩ := w1
  dsimp only
  rw [m1]
  dsimp only
  have w2 := want_is (L := L) (E := E) (k := 3) (by decide) y1.2.next k2
  rw [show y1.2.next.p = y1.2.p + 1 from rfl, m2] at w2
  cases hw2 : takeT E 3 r3 with
  | error a =>
    rw [hw2] at w2
    obtain ⟨n1, n2, -⟩ := w2
    generalize wantX L 3 y1.2.next = z at n1
    have mb : z.2.bad = some (y1.2.p + 1) := by rw [n1]
    refine ⟨y1.2.p + 1, ?_, n2⟩
    dsimp only
    rw [hs _ _ _ _ mb, st mb]
    exact mb
  | ok q =>
  obtain ⟨zt, r4⟩ := q
  rw [hw2] at w2
  obtain ⟨n1, n2, -⟩ := w2
  rw [n1]
  dsimp only
  -- the third
  have h2 := h 2 ([zt.s, yt.s] ++ N) y1.2.next.next k2
  rw [show y1.2.next.next.p = y1.2.p + 1 + 1 from rfl, show L.drop (y1.2.p + 1 + 1) = r4 from n2] at h2
  rw [show (zt.s :: yt.s :: N) = [zt.s, yt.s] ++ N from rfl]
  generalize tx 2 ([zt.s, yt.s] ++ N) y1.2.next.next = y2 at h2
  cases hx2 : tp 2 ([zt.s, yt.s] ++ N) r4 with
  | error a =>
    rw [hx2] at h2
    obtain ⟨b, p1, p2⟩ := h2
    exact ⟨b, by dsimp only; rw [st p1]; exact p1, p2⟩
  | ok q =>
  obtain ⟨pt, r5⟩ := q
  rw [hx2] at h2
  obtain ⟨p1, p2, p3⟩ := h2
  dsimp only
  generalize [zt.s, yt.s] = X
  -- the fourth
  have e3 : kidsX tx L 22 2 X 3 3 N y2.2 = ((tx 2 N y2.2).1 :: (kidsX tx L 22 2 X 4 2 N (tx 2 N y2.2).2).1, (kidsX tx L 22 2 X 4 2 N (tx 2 N y2.2).2).2) := by
    rw [kidsX]
    simp [show bindsN 22 3 = 0 from rfl]
  rw [e3]
  have h3 := h 2 N y2.2 p2
  rw [p3] at h3
  generalize tx 2 N y2.2 = y3 at h3
  cases hx3 : tp 2 N r5 with
  | error a =>
    rw [hx3] at h3
    obtain ⟨b, q1, q2⟩ := h3
    exact ⟨b, by dsimp only; rw [st q1]; exact q1, q2⟩
  | ok q =>
  obtain ⟨qt, r6⟩ := q
  rw [hx3] at h3
  obtain ⟨q1, q2, q3⟩ := h3
  dsimp only
  have e4 : kidsX tx L 22 2 X 4 2 N y3.2 = ((tx 2 N y3.2).1 :: (kidsX tx L 22 2 X 5 1 N (tx 2 N y3.2).2).1, (kidsX tx L 22 2 X 5 1 N (tx 2 N y3.2).2).2) := by
    rw [kidsX]
    simp [show bindsN 22 4 = 0 from rfl]
  rw [e4]
  have h4 := h 2 N y3.2 q2
  rw [q3] at h4
  generalize tx 2 N y3.2 = y4 at h4
  cases hx4 : tp 2 N r6 with
  | error a =>
    rw [hx4] at h4
    obtain ⟨b, t1, t2⟩ := h4
    exact ⟨b, by dsimp only; rw [st t1]; exact t1, t2⟩
  | ok q =>
  obtain ⟨vt, r7⟩ := q
  rw [hx4] at h4
  obtain ⟨t1, t2, t3⟩ := h4
  dsimp only
  have e5 : kidsX tx L 22 2 X 5 1 N y4.2 = ([(tx 2 N y4.2).1], (tx 2 N y4.2).2) := by
    rw [kidsX]
    simp [show bindsN 22 5 = 0 from rfl, kidsX]
  rw [e5]
  have h5 := h 2 N y4.2 t2
  rw [t3] at h5
  generalize tx 2 N y4.2 = y5 at h5
  cases hx5 : tp 2 N r7 with
  | error a =>
    rw [hx5] at h5
    exact h5
  | ok q =>
  obtain ⟨xt, r8⟩ := q
  rw [hx5] at h5
  obtain ⟨z1, z2, z3⟩ := h5
  exact ⟨by dsimp only; rw [g1, k1, p1, q1, t1, z1], z2, z3⟩
theorem binds_one (k : Int) : (bindsN k 1 = 1 ↔ 0 < bindsN k 1) ∧ (k ≠ 22 → ∀ q : Nat, bindsN k q ≠ 0 → bindsN k 1 = 1) := by
  unfold bindsN
  refine ⟨?_, fun hk q hq => ?_⟩
  · (repeat' split) <;> simp_all
  · (repeat' split at hq) <;> (first | omega | (rw [if_neg (by omega)]; rw [if_pos (by omega)]; done) | (rw [if_pos (by omega)]; done) | simp_all)
theorem lv_ok {L : List Tok} {E : Nat} {lv : List Tok → Except Nat (Int × List Tok)} {lx : XS → Int × XS} (h : LvOk L E lv lx) (c : Prop) [Decidable c] {s : XS} (hb : s.bad = none) : SameR L E (if c then lv (L.drop s.p) else .ok (0, L.drop s.p)) (if c then lx s else (0, s)) := by
  by_cases hc : c
  · rw [if_pos hc, if_pos hc]; exact h s hb
  · rw [if_neg hc, if_neg hc]; exact ⟨rfl, hb, rfl⟩
theorem restX_ok {L : List Tok} {E : Nat} {lv : List Tok → Except Nat (Int × List Tok)} {lx : XS → Int × XS} {tp : Int → Names → List Tok → Except Nat (Tm × List Tok)} {tx : TX} (hsl : StickL lx) (hl : LvOk L E lv lx) (hst : StickT tx) (ht : TxOk L E tp tx) {k n : Int} (hk3 : kidsN k n ≤ 0 ∨ 3 ≤ k) {N : Names} {s : XS} (hb : s.bad = none) :
    SameR L E (match lvaP lv k (L.drop s.p) with
      | .error e => .error e
      | .ok (i, r2) => match lvbP lv k r2 with
        | .error e => .error e
        | .ok (j, r3) => match kdsP tp E k n N r3 with
          | .error e => .error e
          | .ok (l, r4) => match takeT E 2 r4 with
            | .error e => .error e
            | .ok (_, r5) => .ok (.mk k i j n l, r5)) (restX lx tx L k n N s) := by
  have stick : ∀ {x : XS} {b : Nat}, x.bad = some b → (wantX L 2 (kidsX tx L k (ownS k) (if bindsN k 1 = 1 then [(if bindsN k 1 = 1 then wantX L 3 x else ([], x)).1] else []) 0 (kidsN k n).toNat N (if bindsN k 1 = 1 then wantX L 3 x else ([], x)).2).2).2 = x := by
    intro x b e
    have e1 : (if bindsN k 1 = 1 then wantX L 3 x else ([], x)).2 = x := by
      split
      · exact want_2 e
      · rfl
    rw [e1, kidsX_sticks hst e, want_2 e]
  unfold restX
  have h1 := lv_ok hl (0 < levelsN k) hb
  unfold lvaP
  dsimp only
  generalize (if 0 < levelsN k then lx s else (0, s)) = a at h1
  cases hx1 : (if 0 < levelsN k then lv (L.drop s.p) else .ok (0, L.drop s.p)) with
  | error e =>
    rw [hx1] at h1
    obtain ⟨b, g1, g2⟩ := h1
    have e2 : (if 1 < levelsN k then lx a.2 else ((0 : Int), a.2)).2 = a.2 := by
      split
      · rw [hsl _ _ g1]
      · rfl
    refine ⟨b, ?_, g2⟩
    dsimp only
    rw [e2, stick g1]
    exact g1
  | ok q =>
  obtain ⟨i, r2⟩ := q
  rw [hx1] at h1
  obtain ⟨g1, g2, g3⟩ := h1
  dsimp only
  have h2 := lv_ok hl (1 < levelsN k) g2
  rw [g3] at h2
  unfold lvbP
  generalize (if 1 < levelsN k then lx a.2 else ((0 : Int), a.2)) = bb at h2
  cases hx2 : (if 1 < levelsN k then lv r2 else .ok (0, r2)) with
  | error e =>
    rw [hx2] at h2
    obtain ⟨b, k1, k2⟩ := h2
    refine ⟨b, ?_, k2⟩
    dsimp only
    rw [stick k1]
    exact k1
  | ok q =>
  obtain ⟨j, r3⟩ := q
  rw [hx2] at h2
  obtain ⟨k1, k2, k3⟩ := h2
  dsimp only
  have hkd : SameR L E (kdsP tp E k n N r3) (kidsX tx L k (ownS k) (if bindsN k 1 = 1 then [(if bindsN k 1 = 1 then wantX L 3 bb.2 else ([], bb.2)).1] else []) 0 (kidsN k n).toNat N (if bindsN k 1 = 1 then wantX L 3 bb.2 else ([], bb.2)).2) := by
    unfold kdsP
    by_cases h22 : k = 22
    · subst h22
      rw [if_pos rfl]
      have hb1 : ¬ bindsN 22 1 = 1 := by decide
      rw [if_neg hb1]
      simp only [if_neg hb1]
      have hkn : (kidsN 22 n).toNat = 6 := rfl
      rw [hkn, show ownS 22 = 2 from rfl]
      have := kidsJ_ok hst ht (N := N) k2
      rw [k3] at this
      exact this
    · rw [if_neg h22]
      unfold kidsK
      by_cases h0 : kidsN k n ≤ 0
      · rw [if_pos h0, show (kidsN k n).toNat = 0 by omega]
        by_cases hb1 : bindsN k 1 = 1
        · exfalso
          unfold bindsN at hb1
          unfold kidsN at h0
          split at hb1
          · (repeat' split at h0) <;> omega
          · split at hb1
            · (repeat' split at h0) <;> omega
            · omega
        · simp only [if_neg hb1]
          exact ⟨rfl, k2, k3⟩
      · rw [if_neg h0]
        have hown : ownS k = sortN k := by
          have h3 : 3 ≤ k := hk3.resolve_left h0
          unfold ownS sortN
          rw [if_neg (by omega : ¬ k ≤ 2)]
        rw [hown]
        by_cases hb1 : bindsN k 1 = 1
        · rw [if_pos ((binds_one k).1.1 hb1)]
          simp only [if_pos hb1]
          have w1 := want_is (L := L) (E := E) (k := 3) (by decide) bb.2 k2
          rw [k3] at w1
          cases hw : takeT E 3 r3 with
          | error e =>
            rw [hw] at w1
            obtain ⟨m1, m2, -⟩ := w1
            refine ⟨bb.2.p, ?_, m2⟩
            rw [m1]
            dsimp only
            rw [kidsX_sticks (b := bb.2.p) hst rfl]
          | ok q =>
            obtain ⟨x, r⟩ := q
            rw [hw] at w1
            obtain ⟨m1, m2, -⟩ := w1
            rw [m1]
            dsimp only
            have := kidsX_ok hst ht (own := sortN k) h22 (X := x.s) (x := [x.s]) (fun _ _ => rfl) (N := N) (c := (kidsN k n).toNat) (p := 0) (s := bb.2.next) k2
            rw [show bb.2.next.p = bb.2.p + 1 from rfl, m2] at this
            exact this
        · rw [if_neg (fun e => hb1 ((binds_one k).1.2 e))]
          simp only [if_neg hb1]
          have := kidsX_ok hst ht (own := sortN k) h22 (X := []) (x := []) (fun q hq => absurd ((binds_one k).2 h22 q hq) hb1) (N := N) (c := (kidsN k n).toNat) (p := 0) (s := bb.2) k2
          rw [k3] at this
          exact this
  generalize kidsX tx L k (ownS k) (if bindsN k 1 = 1 then [(if bindsN k 1 = 1 then wantX L 3 bb.2 else ([], bb.2)).1] else []) 0 (kidsN k n).toNat N (if bindsN k 1 = 1 then wantX L 3 bb.2 else ([], bb.2)).2 = kd at hkd
  cases hx3 : kdsP tp E k n N r3 with
  | error e =>
    rw [hx3] at hkd
    obtain ⟨b, m1, m2⟩ := hkd
    exact ⟨b, by dsimp only; rw [want_2 m1]; exact m1, m2⟩
  | ok q =>
  obtain ⟨l, r4⟩ := q
  rw [hx3] at hkd
  obtain ⟨m1, m2, m3⟩ := hkd
  dsimp only
  have w2 := want_is (L := L) (E := E) (k := 2) (by decide) kd.2 m2
  rw [m3] at w2
  cases hw : takeT E 2 r4 with
  | error e =>
    rw [hw] at w2
    obtain ⟨n1, n2, -⟩ := w2
    exact ⟨kd.2.p, by dsimp only; rw [n1], n2⟩
  | ok q =>
    obtain ⟨z, r5⟩ := q
    rw [hw] at w2
    obtain ⟨n1, n2, -⟩ := w2
    exact ⟨by dsimp only; rw [g1, k1, m1], by dsimp only; rw [n1]; exact m2, by dsimp only; rw [n1]; exact n2⟩
theorem head_small {w : List UInt8} : headN w = 0 ∨ headN w = 1 ∨ 3 ≤ headN w := by
  unfold headN
  split
  · exact Or.inr (Or.inl rfl)
  · cases idxL w (headsW.drop 3) with
    | none => exact Or.inl rfl
    | some i => right; right; show 3 ≤ (i : Int) + 3; omega
theorem bodyX_ok {L : List Tok} {E : Nat} {lv : List Tok → Except Nat (Int × List Tok)} {lx : XS → Int × XS} {tp : Int → Names → List Tok → Except Nat (Tm × List Tok)} {tx : TX} (hsl : StickL lx) (hl : LvOk L E lv lx) (hst : StickT tx) (ht : TxOk L E tp tx) {k : Int} (hk : k = 1 ∨ 3 ≤ k) {N : Names} {s : XS} (hb : s.bad = none) : SameR L E (bodyP lv tp E k N (L.drop s.p)) (bodyX lx tx L k N s) := by
  have hk3 : ∀ n, kidsN k n ≤ 0 ∨ 3 ≤ k := fun n => by
    rcases hk with h | h
    · subst h; exact Or.inl (by unfold kidsN; simp)
    · exact Or.inr h
  unfold bodyP bodyX symP
  by_cases h23 : k = 23
  · rw [if_pos h23, if_pos h23]
    have w := want_is (L := L) (E := E) (k := 3) (by decide) s hb
    cases hx : takeT E 3 (L.drop s.p) with
    | error e =>
      rw [hx] at w
      obtain ⟨-, e2, e3⟩ := w
      rw [if_neg (fun e => e3 e.1)]
      exact ⟨s.p, fail_none hb, e2⟩
    | ok q =>
      obtain ⟨t, r⟩ := q
      have hpl : placeAt L E s.p = t.at_ := (kind_cons (E := E) (takeT_eq hx).1).2.2.1
      rw [hx] at w
      obtain ⟨-, e2, e3, e4⟩ := w
      rw [e4]
      dsimp only
      by_cases h0 : symN t.s = 0
      · rw [if_pos h0, if_neg (fun e => e.2 h0)]
        exact ⟨s.p, fail_none hb, hpl⟩
      · rw [if_neg h0, if_pos ⟨e3, h0⟩]
        have := restX_ok hsl hl hst ht (k := k) (n := symN t.s) (hk3 _) (N := N) (s := s.next) hb
        rw [show s.next.p = s.p + 1 from rfl, e2] at this
        exact this
  · rw [if_neg h23, if_neg h23]
    exact restX_ok hsl hl hst ht (hk3 _) hb
theorem termX_ok {L : List Tok} {E : Nat} {i j : Int} : ∀ f, TxOk L E (termP E i j f) (termX L i j f)
  | 0 => fun so N s hb => ⟨s.p, fail_none hb, here_place⟩
  | f + 1 => fun so N s hb => by
    unfold termX
    rw [hb]
    dsimp only
    rcases drop_kind (L := L) (p := s.p) with ⟨h0, h1, h2⟩ | ⟨t, r, h0, h1, h2, h3, h4⟩
    · rw [h0, h1]
      unfold termP
      rw [if_neg (by omega), if_neg (by omega)]
      exact ⟨s.p, fail_none hb, h2 E⟩
    · rw [h0, h1, h2]
      unfold termP
      by_cases k1 : t.k = 1
      · rw [if_pos k1, if_neg (show ¬ t.k = 3 by omega), if_pos k1]
        unfold listP
        have w := want_is (L := L) (E := E) (k := 3) (by decide) s.next hb
        rw [show s.next.p = s.p + 1 from rfl, h4] at w
        cases hx : takeT E 3 r with
        | error e =>
          rw [hx] at w
          obtain ⟨-, e2, e3⟩ := w
          rw [if_pos (show listK L so s.next = 0 from if_neg (fun e => e3 e.1))]
          exact ⟨s.p + 1, fail_none (s := s.next) hb, e2⟩
        | ok q =>
          obtain ⟨w1, r1⟩ := q
          have hpl : placeAt L E (s.p + 1) = w1.at_ := (kind_cons (E := E) (h4.trans (takeT_eq hx).1)).2.2.1
          rw [hx] at w
          obtain ⟨-, e2, e3, e4⟩ := w
          dsimp only
          by_cases hc : headN w1.s = 0 ∨ (sortN (headN w1.s) ≠ 0 ∧ so ≠ 0 ∧ sortN (headN w1.s) ≠ so)
          · rw [if_pos hc, if_pos (show listK L so s.next = 0 from if_neg (fun e => e.2 (by rw [show s.next.p = s.p + 1 from rfl, e4]; exact hc)))]
            exact ⟨s.p + 1, fail_none (s := s.next) hb, hpl⟩
          · have hlk : listK L so s.next = headN w1.s := by
              unfold listK
              rw [show s.next.p = s.p + 1 from rfl, e4, if_pos ⟨e3, hc⟩]
            rw [if_neg hc, hlk]
            have hne : headN w1.s ≠ 0 := fun e => hc (Or.inl e)
            rw [if_neg hne]
            have := bodyX_ok (levX_sticks L i j f) (levX_ok (E := E) f) (termX_sticks L i j f) (termX_ok (E := E) f) (k := headN w1.s) (head_small.resolve_left hne) (N := N) (s := s.next.next) hb
            rw [show s.next.next.p = s.p + 1 + 1 from rfl, e2] at this
            exact this
      · rw [if_neg k1]
        by_cases k3 : t.k = 3
        · rw [if_pos k3, if_pos k3]
          cases idxL t.s N with
          | none => exact ⟨s.p, fail_none hb, h3 E⟩
          | some q => exact ⟨rfl, hb, h4⟩
        · rw [if_neg k3, if_neg k3, if_neg k1]
          exact ⟨s.p, fail_none hb, h3 E⟩
end Go.Proofs.YtlalolnhpcbjnaaDoor.Rt

namespace Go.Proofs.YtlalolnhpcbjnaaDoor.Dv

def startX : XS := ⟨0, none, 0, 0⟩
def endX (L : List Tok) (br : Bool) (s : XS) : XS := if s.bad = none ∧ (s.p < L.length ∨ br = true) then { s with bad := some s.p } else s
theorem endX_bad {L : List Tok} {br : Bool} {s : XS} {b : Nat} (h : s.bad = some b) : endX L br s = s := by unfold endX; rw [if_neg (by rw [h]; simp)]
end Go.Proofs.YtlalolnhpcbjnaaDoor.Dv

namespace Go.Proofs.YtlalolnhpcbjnaaDoor
open Go.RowKit

theorem lexL_inv {l : List UInt8} {p : Nat} {t : Tok} {r : List Tok} {o : Option Nat} (h : lexL l p = (t :: r, o)) : ∃ q k n, p + skipL (l.drop p) = q ∧ q < l.length ∧ nextL (l.drop q) = some (k, n) ∧ t = ⟨k, (l.drop q).take n, q⟩ ∧ lexL l (q + n) = (r, o) := by
  by_cases h1 : p + skipL (l.drop p) < l.length
  · cases hn : nextL (l.drop (p + skipL (l.drop p))) with
    | none => rw [lexL_fault rfl h1 hn] at h; cases h
    | some x =>
      obtain ⟨k, n⟩ := x
      rw [lexL_next rfl h1 hn] at h
      obtain ⟨h2, h3⟩ := Prod.mk.inj h
      obtain ⟨h4, h5⟩ := List.cons.inj h2
      exact ⟨_, k, n, rfl, h1, hn, h4.symm, Prod.ext h5 h3⟩
  · rw [lexL_end h1] at h; cases h
end Go.Proofs.YtlalolnhpcbjnaaDoor

namespace Go.Proofs.YtlalolnhpcbjnaaDoor

theorem runL_cutoff {p : UInt8 → Bool} : ∀ (X : List UInt8) (m : Nat), runL p (X.take m) = min (runL p X) m
  | [], m => by simp [runL]
  | c :: r, 0 => by simp [runL]
  | c :: r, m + 1 => by
    rw [List.take_succ_cons]
    cases h : p c with
    | true => rw [runL_yes h, runL_yes h, runL_cutoff r m]; omega
    | false => rw [runL_no h, runL_no h]; omega
theorem skipL_cutoff : ∀ (n : Nat) (X : List UInt8) (m : Nat), X.length ≤ n → skipL X ≤ m → skipL (X.take m) = skipL X
  | _, [], m, _, _ => by simp
  | 0, c :: r, m, h, _ => by simp at h
  | n + 1, c :: r, 0, h, h2 => by rw [List.take_zero, skipL_nil]; omega
  | n + 1, c :: r, m + 1, h, h2 => by
    rw [List.take_succ_cons]
    simp only [List.length_cons] at h
    by_cases hb : blankC c = true
    · rw [skipL_blank hb] at h2 ⊢
      rw [skipL_blank hb, skipL_cutoff n r m (by omega) (by omega)]
    · have hb' : blankC c = false := by simpa using hb
      by_cases h59 : c.toNat = 59
      · rw [skipL_note hb' h59] at h2 ⊢
        rw [skipL_note hb' h59, runL_cutoff, Nat.min_eq_left (by omega), List.drop_take, skipL_cutoff n _ _ (by rw [List.length_drop]; omega) (by omega)]
      · rw [skipL_stop hb' h59, skipL_stop hb' h59]
theorem nextL_cutoff {X : List UInt8} {k n m : Nat} (h : nextL X = some (k, n)) (hm : n ≤ m) : nextL (X.take m) = some (k, n) := by
  have hr := nextL_range h
  obtain ⟨m, rfl⟩ : ∃ q, m = q + 1 := ⟨m - 1, by omega⟩
  match X, h with
  | [], h => simp at hr; omega
  | c :: r, h =>
    by_cases c1 : c.toNat = 40
    · rw [next_open c1] at h; rw [List.take_succ_cons, next_open c1, h]
    by_cases c2 : c.toNat = 41
    · rw [next_close c2] at h; rw [List.take_succ_cons, next_close c2, h]
    cases c3 : letterC c with
    | true =>
      by_cases c4 : 20 < runL wordC (c :: r)
      · rw [next_long c1 c2 c3 c4] at h; cases h
      · rw [next_word c1 c2 c3 c4] at h
        cases h
        have hx := runL_cutoff (p := wordC) (c :: r) (m + 1)
        rw [Nat.min_eq_left hm, List.take_succ_cons] at hx
        rw [List.take_succ_cons, next_word c1 c2 c3 (by omega), hx]
    | false =>
      cases c5 : isd c with
      | true =>
        by_cases c6 : getB ((c :: r).take (runL isd (c :: r))) = none ∨ ((((c :: r).drop (runL isd (c :: r))).head?.map letterC).getD false) = true
        · rw [next_bad c1 c2 c3 c5 c6] at h; cases h
        · rw [next_num c1 c2 c3 c5 c6] at h
          cases h
          have hx := runL_cutoff (p := isd) (c :: r) (m + 1)
          rw [Nat.min_eq_left hm] at hx
          have ht : ((c :: r).take (m + 1)).take (runL isd (c :: r)) = (c :: r).take (runL isd (c :: r)) := by rw [List.take_take, Nat.min_eq_left hm]
          have hd : ((((c :: r).take (m + 1)).drop (runL isd (c :: r))).head?.map letterC).getD false = true → ((((c :: r).drop (runL isd (c :: r))).head?.map letterC).getD false) = true := by
            rw [List.drop_take]
            cases hq : m + 1 - runL isd (c :: r) with
            | zero => simp
            | succ q =>
              cases (c :: r).drop (runL isd (c :: r)) with
              | nil => simp
              | cons a b => simp
          rw [List.take_succ_cons] at hx ht hd ⊢
          rw [next_num c1 c2 c3 c5 (by
            rw [hx, ht]
            rintro (e | e)
            · exact c6 (Or.inl e)
            · exact c6 (Or.inr (hd e))), hx]
      | false => rw [next_other c1 c2 c3 c5] at h; cases h
theorem lexL_inv_fault {l : List UInt8} {q p : Nat} (h : lexL l q = ([], some p)) : q + skipL (l.drop q) = p ∧ p < l.length := by
  by_cases h1 : q + skipL (l.drop q) < l.length
  · cases hn : nextL (l.drop (q + skipL (l.drop q))) with
    | none =>
      rw [lexL_fault rfl h1 hn] at h
      simp only [Prod.mk.injEq, Option.some.injEq, true_and] at h
      exact ⟨h, by omega⟩
    | some x => obtain ⟨k, n⟩ := x; rw [lexL_next rfl h1 hn] at h; simp at h
  · rw [lexL_end h1] at h; simp at h
theorem lexL_cutoff {l : List UInt8} {p : Nat} : ∀ (ts : List Tok) (q : Nat), lexL l q = (ts, some p) → q ≤ p ∧ p < l.length ∧ lexL (l.take p) q = (ts, none)
  | [], q, h => by
    obtain ⟨h1, h2⟩ := lexL_inv_fault h
    refine ⟨by omega, h2, lexL_end ?_⟩
    rw [List.drop_take, skipL_cutoff _ _ _ (Nat.le_refl _) (by omega), List.length_take]
    omega
  | t :: r, q, h => by
    obtain ⟨q', k, n, h1, h2, h3, h4, h5⟩ := lexL_inv h
    obtain ⟨i1, i2, i3⟩ := lexL_cutoff r (q' + n) h5
    have hr := nextL_range h3
    refine ⟨by omega, i2, ?_⟩
    have e1 : q + skipL ((l.take p).drop q) = q' := by
      rw [List.drop_take, skipL_cutoff _ _ _ (Nat.le_refl _) (by omega), h1]
    have e2 : nextL ((l.take p).drop q') = some (k, n) := by
      rw [List.drop_take]; exact nextL_cutoff h3 (by omega)
    rw [lexL_next e1 (by rw [List.length_take]; omega) e2, i3, h4, List.drop_take, List.take_take, Nat.min_eq_left (by omega)]
/-- The tokens of a text, its end and whether a fault stands there, by one reading. -/
theorem ofL_eq (l : List UInt8) : ofL l = ((lexL l 0).1, (match (lexL l 0).2 with | none => l.length | some p => p), (lexL l 0).2.isSome) := by
  unfold ofL
  rcases hx : lexL l 0 with ⟨ts, o⟩
  cases o with
  | none => rfl
  | some p =>
    have h := (lexL_cutoff ts 0 hx).2.2
    simp only [h, toksO]
    rfl
end Go.Proofs.YtlalolnhpcbjnaaDoor

namespace Go.Proofs.YtlalolnhpcbjnaaDoor.Dv

theorem kind_in {L : List Tok} {p : Nat} (h : kindAt L p ≠ 0) : p < L.length := by
  by_cases hl : p < L.length
  · exact hl
  · exact absurd (by simp [kindAt, List.getElem?_eq_none (by omega : L.length ≤ p)]) h
structure InvX (L : List Tok) (s : XS) : Prop where
  wd : s.word ≠ 0 → ∃ b, s.bad = some b ∧ b < L.length
  n0 : s.bad = none → s.n ≤ s.p
  n1 : s.n ≤ s.p + 1
  p1 : s.p ≤ L.length + 1
  bd : ∀ b, s.bad = some b → b ≤ L.length + 1
theorem InvX.start (L : List Tok) : InvX L startX := ⟨fun h => absurd rfl h, fun _ => Nat.le_refl _, by decide, Nat.zero_le _, fun b h => (by cases h)⟩
theorem InvX.word0 {L : List Tok} {s : XS} (h : InvX L s) (hb : s.bad = none) : s.word = 0 := by
  by_cases hw : s.word = 0
  · exact hw
  · obtain ⟨b, e, -⟩ := h.wd hw; rw [hb] at e; cases e
theorem InvX.fail {L : List Tok} {s : XS} (h : InvX L s) : InvX L s.fail := by
  unfold XS.fail
  cases hb : s.bad with
  | some b => exact h
  | none => exact ⟨fun hw => absurd (h.word0 hb) hw, fun e => (by cases e), h.n1, h.p1, fun b e => (by cases e; exact h.p1)⟩
theorem InvX.next {L : List Tok} {s : XS} (h : InvX L s) (hb : s.bad = none) (hp : s.p ≤ L.length) : InvX L s.next :=
  ⟨fun hw => absurd (h.word0 hb) hw, fun _ => Nat.le_trans (h.n0 hb) (Nat.le_succ _), Nat.le_succ_of_le h.n1, (show s.p + 1 ≤ L.length + 1 by omega), fun b e => h.bd b e⟩
theorem InvX.want {L : List Tok} {k : Nat} (hk : k ≠ 0) {s : XS} (h : InvX L s) : InvX L (wantX L k s).2 := by
  unfold wantX
  cases hb : s.bad with
  | some b => exact h
  | none =>
    simp only
    split
    · rename_i e
      exact h.next hb (Nat.le_of_lt (kind_in (by rw [e]; exact hk)))
    · exact h.fail
def KeepX (L : List Tok) (dx : DX) : Prop := ∀ d s, InvX L s → InvX L (dx d s).2
theorem kidsX_keep {L : List Tok} {dx : DX} (hd : KeepX L dx) {d : Nat} : ∀ {c : Nat} {s : XS}, InvX L s → InvX L (kidsX dx d c s).2
  | 0, s, h => h
  | c + 1, s, h => by
    show InvX L (kidsX dx d c (dx d s).2).2
    exact kidsX_keep hd (hd d s h)
end Go.Proofs.YtlalolnhpcbjnaaDoor.Dv

namespace Go.Proofs.YtlalolnhpcbjnaaDoor.Dv
open Go.RowKit

theorem LiesP.out {w : World} {P : Nat → Prop} {l : List Tm} {s : Value} (h : LiesP w P l s) : ∃ (a : Option Addr) (cap : Nat), s = .slice a l.length cap ∧ l.length ≤ cap ∧ cap ≤ maxLen := by
  cases h with
  | mk l a cap S hc hm hf hn hk => exact ⟨a, cap, rfl, hc, hm⟩

end Go.Proofs.YtlalolnhpcbjnaaDoor.Dv

namespace Go.Proofs.YtlalolnhpcbjnaaDoor.Dv
open Go.RowKit

theorem hltD {w : World} {b : Nat} {o : Obj} (h : w.heap[b]? = some o) : b < w.heap.size := (Array.getElem?_eq_some_iff.1 h).1
theorem typeD {w : World} {b : Nat} {cs cs' : Array Value} {T T' : TypeId} {fz fz' : Nat × Nat} (h : w.heap[b]? = some (Obj.cells cs T fz)) (k : w.heap[b]? = some (Obj.cells cs' T' fz')) : T = T' := by
  rw [h] at k; injection k with k; injection k
/-- The constants of a parsing: where its blocks lie, the allowances, the end of the text. -/
structure PC where
  B : Nat
  P : Nat
  S : Nat
  G : Nat
  deep : Nat
  nodes : Nat
  E : Nat
  br : Bool
theorem drewN_grown (w : World) : ∀ k, w.grownBy (w.drewN k) none
  | 0 => ⟨rfl, rfl, rfl, Nat.le_refl _, fun _ _ _ => rfl⟩
  | k + 1 => by
    have h := drewN_grown w k
    exact ⟨h.os, h.tape, h.output, h.size, h.block⟩
/-- The parsing of premises, some of them done. -/
def KInv (dp : DP) (d n u0 : Nat) (ts0 : List Tok) (acc : List Tm) (m u : Nat) (ts : List Tok) : Prop := kidsD dp d n u0 ts0 = (match kidsD dp d m u ts with
  | .error e => .error e
  | .ok (l, u2, r) => .ok (acc ++ l, u2, r))
theorem KInv.start (dp : DP) (d n u : Nat) (ts : List Tok) : KInv dp d n u ts [] n u ts := by
  unfold KInv
  cases kidsD dp d n u ts with
  | error e => rfl
  | ok x => rfl
theorem KInv.err {dp : DP} {d n u0 m u : Nat} {ts0 ts : List Tok} {acc : List Tm} {e : PF} (h : KInv dp d n u0 ts0 acc (m + 1) u ts) (hx : dp d u ts = .error e) : kidsD dp d n u0 ts0 = .error e := by
  unfold KInv at h
  rw [h, kidsD, hx]
theorem KInv.step {dp : DP} {d n u0 m u u1 : Nat} {ts0 ts r : List Tok} {acc : List Tm} {t : Tm} (h : KInv dp d n u0 ts0 acc (m + 1) u ts) (hx : dp d u ts = .ok (t, u1, r)) : KInv dp d n u0 ts0 (acc ++ [t]) m u1 r := by
  unfold KInv at h ⊢
  rw [h, kidsD, hx]
  dsimp only
  cases kidsD dp d m u1 r with
  | error e => rfl
  | ok x => obtain ⟨l, u2, r2⟩ := x; simp
theorem KInv.done {dp : DP} {d n u0 u : Nat} {ts0 ts : List Tok} {acc : List Tm} (h : KInv dp d n u0 ts0 acc 0 u ts) : kidsD dp d n u0 ts0 = .ok (acc, u, ts) := by
  unfold KInv at h
  rw [h, kidsD]
  simp
end Go.Proofs.YtlalolnhpcbjnaaDoor.Dv

namespace Go.Proofs.YtlalolnhpcbjnaaDoor
open Go.RowKit Go.Lib

theorem foldl_lt (l : List UInt8) : ∀ a : Nat, digs l = true → l.foldl (fun n c => 10 * n + (c.toNat - 48)) a < (a + 1) * 10 ^ l.length := by
  induction l with
  | nil => intro a _; simp
  | cons c l ih =>
    intro a h
    simp only [digs, List.all_cons, Bool.and_eq_true, isd, decide_eq_true_eq] at h
    simp only [List.foldl_cons, List.length_cons, Nat.pow_succ]
    refine Nat.lt_of_lt_of_le (ih _ h.2) ?_
    rw [Nat.mul_comm (10 ^ l.length) 10, ← Nat.mul_assoc]
    exact Nat.mul_le_mul_right _ (by omega)
theorem val_lt {l : List UInt8} (h : digs l = true) : val l < 10 ^ l.length := by
  have := foldl_lt l 0 h
  simpa [val] using this

set_option maxHeartbeats 1000000 in
theorem refget_any (s : ByteArray) (w : World) (hs : s.size ≤ maxLen) : Calls Tryd.prog 42 #[.string s] w fun e w' => e = .returned (getV s.data.toList) ∧ w' = w := by
  unfold maxLen at hs
  have hsl : s.data.toList.length = s.size := by simp
  by_cases h0 : s.size = 0
  · have hl : s.data.toList = [] := List.eq_nil_of_length_eq_zero (by omega)
    have HV := Lib.hid (getV_none (l := s.data.toList) (by rw [hl]; rfl))
    clear hl hsl
    go_enter Tryd.func42, Tryd.ntmps42
    go_wp2
    go_ret2
    rw [HV.out]
    exact ⟨rfl, rfl⟩
  have hne : s.data.toList ≠ [] := fun h => by rw [h] at hsl; simp at hsl; omega
  have e0 : ((s.size : Int) == 0) = false := by simpa using h0
  by_cases h7 : 7 < s.size
  · have HV := Lib.hid (getV_none (get_long (l := s.data.toList) (by omega)))
    clear hne hsl
    go_enter Tryd.func42, Tryd.ntmps42
    go_wp2
    go_ret2
    rw [HV.out]
    exact ⟨rfl, rfl⟩
  have h0' : 0 < s.size := by omega
  have e7 : ¬ 7 < (s.size : Int) := by omega
  by_cases h1 : 1 < s.size ∧ ((s[0].toNat : Int) = 48)
  · obtain ⟨h1, h2⟩ := h1
    have HV := Lib.hid (getV_none (l := s.data.toList) (by
      unfold getB; rw [if_pos (Or.inr ⟨by omega, by rw [head_at s h0']; congr 1; apply UInt8.toNat_inj.1; simp; omega⟩)]))
    have e2 : ((s[0].toNat : Int) == 48) = true := by simpa using h2
    clear hne hsl h2
    go_enter Tryd.func42, Tryd.ntmps42
    go_wp2
    go_ret2
    rw [HV.out]
    exact ⟨rfl, rfl⟩
  have HN2 : Hid (¬ (1 < s.data.toList.length ∧ s.data.toList.head? = some 48)) := by
    rintro ⟨h, h'⟩
    rw [head_at s h0'] at h'
    simp only [Option.some.injEq] at h'
    exact h1 ⟨by omega, by rw [h']; rfl⟩
  by_cases hA : 1 < s.size
  · have e2 : ((s[0].toNat : Int) == 48) = false := by
      have : ¬ (s[0].toNat : Int) = 48 := fun h => h1 ⟨hA, h⟩
      simpa using this
    clear h1 h0
    have HHN := Lib.hid hne
    have HHS := Lib.hid hsl
    clear hne hsl
    go_enter Tryd.func42, Tryd.ntmps42
    go_wp2
    go_loop [4, 5] (fun n i => ∃ k : Nat, k ≤ s.size ∧ i = .int .i64 k ∧ n = .int .i64 (val (s.data.toList.take k) : Nat) ∧ Hid (digs (s.data.toList.take k) = true) ∧ Hid (val (s.data.toList.take k) < 10000000)) (fun _ i => s.size - (RowKit.intOf i).toNat)
    case atStart => exact ⟨0, Nat.zero_le _, rfl, rfl, rfl, (show (0 : Nat) < 10000000 by omega)⟩
    case round =>
      obtain ⟨k, hk, rfl, rfl, hd, hv⟩ := hrel
      by_cases hlt : k < s.size
      · have hts := take_snoc s k hlt
        have hsn := val_snoc (s.data.toList.take k) s[k]
        have hdn := digs_snoc (s.data.toList.take k) s[k]
        rw [← hts] at hsn hdn
        rw [hd.out, Bool.true_and] at hdn
        have hc0 := s[k].toNat_lt
        by_cases l1 : (s[k].toNat : Int) < 48
        · have HF := Lib.hid (getV_none (getB_digs (isd_at s k hlt (by unfold isd; simp; omega))))
          clear hts hsn hdn hc0 hd hv
          go_wp2
          go_ret2
          rw [HF.out]
          exact ⟨rfl, rfl⟩
        by_cases l2 : 57 < (s[k].toNat : Int)
        · have HF := Lib.hid (getV_none (getB_digs (isd_at s k hlt (by unfold isd; simp; omega))))
          clear hts hsn hdn hc0 hd hv
          go_wp2
          go_ret2
          rw [HF.out]
          exact ⟨rfl, rfl⟩
        have hv0 := hv.out
        obtain ⟨v, hve⟩ : ∃ v : Nat, val (s.data.toList.take k) = v := ⟨_, rfl⟩
        rw [hve] at hsn hv0 ⊢
        have l3 : 48 ≤ (s[k].toNat : Int) := by omega
        have l4 : (s[k].toNat : Int) ≤ 57 := by omega
        have HDN : Hid (digs (s.data.toList.take (k + 1)) = true) := by rw [Hid, hdn]; unfold isd; simp; omega
        have HSN := Lib.hid (show ((val (s.data.toList.take (k + 1)) : Nat) : Int) = 10 * (v : Int) + ((s[k].toNat : Int) - 48) by rw [hsn]; omega)
        have hvs := val_at s (k + 1)
        have hw1 : IntKind.u8.wrap ((s[k].toNat : Int) - 48) = (s[k].toNat : Int) - 48 := IntWalk.u8_in _ (by omega)
        have HV5 : Hid (val (s.data.toList.take (k + 1)) < 10000000) := by
          have h1 := val_lt (l := s.data.toList.take (k + 1)) HDN.out
          have h2 : (s.data.toList.take (k + 1)).length ≤ 7 := by rw [List.length_take]; omega
          have h3 : 10 ^ (s.data.toList.take (k + 1)).length ≤ 10 ^ 7 := Nat.pow_le_pow_right (by omega) h2
          rw [Hid]; omega
        clear hts hsn hdn hc0 hd hv hvs hve l1 l2
        go_wp2
        go_round
        case rel => exact ⟨k + 1, hlt, by go_num, by rw [HSN.out], HDN, HV5⟩
        case measure => simp [RowKit.intOf]; omega
      · have hte : s.data.toList.take k = s.data.toList := List.take_of_length_le (by rw [HHS.out]; omega)
        rw [hte] at hd hv ⊢
        obtain ⟨v, hve⟩ : ∃ v : Nat, val s.data.toList = v := ⟨_, rfl⟩
        have hd0 := hd.out
        have hv0 := hv.out
        rw [hve] at hv0
        by_cases l5 : 1000000 < v
        · have HG := Lib.hid (getV_none (getB_great (l := s.data.toList) (by omega)))
          have l6 : 1000000 < (v : Int) := by omega
          rw [hve]
          clear hte hd hv hd0 hve l5
          go_wp2
          go_ret2
          rw [HG.out]
          exact ⟨rfl, rfl⟩
        · have HG := Lib.hid (getV_some (getB_of HHN.out HN2.out hd0 (by omega)))
          have l6 : ¬ 1000000 < (v : Int) := by omega
          rw [hve] at HG ⊢
          clear hte hd hv hd0 hve l5
          go_wp2
          go_ret2
          rw [HG.out]
          exact ⟨rfl, rfl⟩
  · clear h1 h0
    have HHN := Lib.hid hne
    have HHS := Lib.hid hsl
    clear hne hsl
    go_enter Tryd.func42, Tryd.ntmps42
    go_wp2
    go_loop [4, 5] (fun n i => ∃ k : Nat, k ≤ s.size ∧ i = .int .i64 k ∧ n = .int .i64 (val (s.data.toList.take k) : Nat) ∧ Hid (digs (s.data.toList.take k) = true) ∧ Hid (val (s.data.toList.take k) < 10000000)) (fun _ i => s.size - (RowKit.intOf i).toNat)
    case atStart => exact ⟨0, Nat.zero_le _, rfl, rfl, rfl, (show (0 : Nat) < 10000000 by omega)⟩
    case round =>
      obtain ⟨k, hk, rfl, rfl, hd, hv⟩ := hrel
      by_cases hlt : k < s.size
      · have hts := take_snoc s k hlt
        have hsn := val_snoc (s.data.toList.take k) s[k]
        have hdn := digs_snoc (s.data.toList.take k) s[k]
        rw [← hts] at hsn hdn
        rw [hd.out, Bool.true_and] at hdn
        have hc0 := s[k].toNat_lt
        by_cases l1 : (s[k].toNat : Int) < 48
        · have HF := Lib.hid (getV_none (getB_digs (isd_at s k hlt (by unfold isd; simp; omega))))
          clear hts hsn hdn hc0 hd hv
          go_wp2
          go_ret2
          rw [HF.out]
          exact ⟨rfl, rfl⟩
        by_cases l2 : 57 < (s[k].toNat : Int)
        · have HF := Lib.hid (getV_none (getB_digs (isd_at s k hlt (by unfold isd; simp; omega))))
          clear hts hsn hdn hc0 hd hv
          go_wp2
          go_ret2
          rw [HF.out]
          exact ⟨rfl, rfl⟩
        have hv0 := hv.out
        obtain ⟨v, hve⟩ : ∃ v : Nat, val (s.data.toList.take k) = v := ⟨_, rfl⟩
        rw [hve] at hsn hv0 ⊢
        have l3 : 48 ≤ (s[k].toNat : Int) := by omega
        have l4 : (s[k].toNat : Int) ≤ 57 := by omega
        have HDN : Hid (digs (s.data.toList.take (k + 1)) = true) := by rw [Hid, hdn]; unfold isd; simp; omega
        have HSN := Lib.hid (show ((val (s.data.toList.take (k + 1)) : Nat) : Int) = 10 * (v : Int) + ((s[k].toNat : Int) - 48) by rw [hsn]; omega)
        have hvs := val_at s (k + 1)
        have hw1 : IntKind.u8.wrap ((s[k].toNat : Int) - 48) = (s[k].toNat : Int) - 48 := IntWalk.u8_in _ (by omega)
        have HV5 : Hid (val (s.data.toList.take (k + 1)) < 10000000) := by
          have h1 := val_lt (l := s.data.toList.take (k + 1)) HDN.out
          have h2 : (s.data.toList.take (k + 1)).length ≤ 7 := by rw [List.length_take]; omega
          have h3 : 10 ^ (s.data.toList.take (k + 1)).length ≤ 10 ^ 7 := Nat.pow_le_pow_right (by omega) h2
          rw [Hid]; omega
        clear hts hsn hdn hc0 hd hv hvs hve l1 l2
        go_wp2
        go_round
        case rel => exact ⟨k + 1, hlt, by go_num, by rw [HSN.out], HDN, HV5⟩
        case measure => simp [RowKit.intOf]; omega
      · have hte : s.data.toList.take k = s.data.toList := List.take_of_length_le (by rw [HHS.out]; omega)
        rw [hte] at hd hv ⊢
        obtain ⟨v, hve⟩ : ∃ v : Nat, val s.data.toList = v := ⟨_, rfl⟩
        have hd0 := hd.out
        have hv0 := hv.out
        rw [hve] at hv0
        by_cases l5 : 1000000 < v
        · have HG := Lib.hid (getV_none (getB_great (l := s.data.toList) (by omega)))
          have l6 : 1000000 < (v : Int) := by omega
          rw [hve]
          clear hte hd hv hd0 hve l5
          go_wp2
          go_ret2
          rw [HG.out]
          exact ⟨rfl, rfl⟩
        · have HG := Lib.hid (getV_some (getB_of HHN.out HN2.out hd0 (by omega)))
          have l6 : ¬ 1000000 < (v : Int) := by omega
          rw [hve] at HG ⊢
          clear hte hd hv hd0 hve l5
          go_wp2
          go_ret2
          rw [HG.out]
          exact ⟨rfl, rfl⟩

end Go.Proofs.YtlalolnhpcbjnaaDoor

namespace Go.Proofs.YtlalolnhpcbjnaaDoor
open Go.RowKit

theorem info_ptok : (Tryd.prog.info? 79).map (fun i => (i.zero, i.size, i.bytes)) = some (some (.agg #[.int .i64 0, .string ⟨#[]⟩, .int .i64 0]), 3, 32) := by kernel_rfl
theorem slice_two {P : Program} {t : TypeId} (w : World) (s : ByteArray) (p q : Nat) (ht : P.underlying t = some .string) (h : p ≤ q) (h2 : q ≤ s.size) :
    (Instr.slice t (.string s) (some (.int .i64 (p : Int))) (some (.int .i64 (q : Int))) none).run P w = .ok (.string (s.extract p q)) w := by
  rw [run_slice_string w t s .i64 .i64 _ _ ht (by omega) (by omega) (by omega)]
  rfl
theorem lx_blank {s : ByteArray} {p : Nat} (h : p < s.size) (hb : blankC s[p] = true) : lexL s.data.toList p = lexL s.data.toList (p + 1) := lexL_same (by rw [drop_at s p h, skipL_blank hb]; omega)
theorem lx_note {s : ByteArray} {p : Nat} (h : p < s.size) (hb : s[p].toNat = 59) : lexL s.data.toList p = lexL s.data.toList (p + runL lineC (s.data.toList.drop p)) := by
  have hline : lineC s[p] = true := by unfold lineC; rw [hb]; rfl
  have hbl : blankC s[p] = false := by unfold blankC; rw [hb]; rfl
  have hrl : runL lineC (s.data.toList.drop p) = runL lineC (s.data.toList.drop (p + 1)) + 1 := by rw [drop_at s p h, runL_yes hline]
  refine lexL_same ?_
  have hd : skipL (s.data.toList.drop p) = runL lineC (s.data.toList.drop (p + 1)) + 1 + skipL ((s.data.toList.drop (p + 1)).drop (runL lineC (s.data.toList.drop (p + 1)))) := by
    conv => lhs; rw [drop_at s p h]
    rw [skipL_note hbl hb]
  rw [List.drop_drop] at hd
  rw [hd, hrl, show p + (runL lineC (s.data.toList.drop (p + 1)) + 1) = p + 1 + runL lineC (s.data.toList.drop (p + 1)) by omega]
  omega
theorem lx_skip {s : ByteArray} {p : Nat} (h : p < s.size) (hb : blankC s[p] = false) (h59 : s[p].toNat ≠ 59) : p + skipL (s.data.toList.drop p) = p := by rw [drop_at s p h, skipL_stop hb h59]; rfl
theorem lx_tok {s : ByteArray} {p k n : Nat} {ts : List Tok} {R : List Tok × Option Nat} (hR : lexTo ts (lexL s.data.toList p) = R) (h : p < s.size) (hq : p + skipL (s.data.toList.drop p) = p) (hn : nextL (s.data.toList.drop p) = some (k, n)) : lexTo (ts ++ [⟨k, (s.data.toList.drop p).take n, p⟩]) (lexL s.data.toList (p + n)) = R := by
  rw [← hR, lexL_next hq (by simpa using h) hn]
  exact (lexTo_next ts ⟨k, _, p⟩ _).symm
theorem lx_bad {s : ByteArray} {p : Nat} {ts : List Tok} {R : List Tok × Option Nat} (hR : lexTo ts (lexL s.data.toList p) = R) (h : p < s.size) (hq : p + skipL (s.data.toList.drop p) = p) (hn : nextL (s.data.toList.drop p) = none) : R = (ts, some p) := by
  rw [← hR, lexL_fault hq (by simpa using h) hn]; simp [lexTo]

/-- What the page's Lex hands back. -/
def plexGives (T : TypeId) (w : World) (R : List Tok × Option Nat) (e : Ending) (w' : World) : Prop :=
  Below w.heap.size w w' ∧ ∃ v, Toks T w.heap.size w' v R.1 ∧ e = .returned (.tuple #[v, .int .i64 (match R.2 with | none => -1 | some p => (p : Int))])

set_option maxRecDepth 20000 in
set_option maxHeartbeats 8000000 in
theorem plex_any (s : ByteArray) (w : World) (hs : s.size ≤ 1000000) :
    Calls Tryd.prog 22 #[.string s] w (plexGives 79 w (lexL s.data.toList 0)) := by
  have HPL := Lib.hid pletter_any
  have HPD := Lib.hid pdigit_any
  have HGET := Lib.hid fun t w (h : t.size ≤ maxLen) => refget_any t w h
  have hsl : s.data.toList.length = s.size := by simp
  have HSL := Lib.hid hsl
  obtain ⟨R, hR⟩ : ∃ R, lexL s.data.toList 0 = R := ⟨_, rfl⟩
  rw [hR]
  have HRR := Lib.hid hR
  obtain ⟨i0, hi, hz0, hz1, hz2⟩ := tok_parts info_ptok
  have HI := Lib.hid (And.intro hi (And.intro hz0 (And.intro hz1 hz2)))
  clear hR hsl hi hz0 hz1 hz2
  go_enter Tryd.func22, Tryd.ntmps22
  go_wp2_with fail
  go_loopw [4, 5] (fun v i wr => ∃ (p : Nat) (ts : List Tok), p ≤ s.size ∧ ts.length ≤ p ∧ i = .int .i64 p ∧ Hid (lexTo ts (lexL s.data.toList p) = R) ∧ Hid (Toks 79 w.heap.size wr v ts) ∧ Below w.heap.size w wr) (fun _ i _ => s.size - (intOf i).toNat)
  case atStart => exact ⟨0, [], Nat.zero_le _, Nat.zero_le _, rfl, by rw [Hid, HRR.out]; simp [lexTo], toks_nil _ _ _, Below.refl _ _⟩
  case round =>
    obtain ⟨p, ts, hp, htp, rfl, hR, hT, hB⟩ := hrel
    have HB := Lib.hid hB
    have hB2 := hB.size
    clear hB
    by_cases hlt : p < s.size
    · by_cases c32 : s[p].toNat = 32
      · have b32 : ((s[p].toNat : Int) == 32) = true := (u8_eq (n := 32)).trans (by rw [c32]; rfl)
        have HN := Lib.hid (show lexTo ts (lexL s.data.toList (p + 1)) = R by rw [← lx_blank hlt (by unfold blankC; rw [c32]; rfl)]; exact hR.out)
        clear c32 hR
        go_wp2_with fail
        go_roundw
        case rel => exact ⟨p + 1, ts, hlt, by omega, by go_num, HN.out, hT, HB.out⟩
        case measure => simp [intOf]; omega
      have b32 : ((s[p].toNat : Int) == 32) = false := (u8_eq (n := 32)).trans (beq_eq_false_iff_ne.2 c32)
      by_cases c9 : s[p].toNat = 9
      · have b9 : ((s[p].toNat : Int) == 9) = true := (u8_eq (n := 9)).trans (by rw [c9]; rfl)
        have HN := Lib.hid (show lexTo ts (lexL s.data.toList (p + 1)) = R by rw [← lx_blank hlt (by unfold blankC; rw [c9]; rfl)]; exact hR.out)
        clear c9 hR
        go_wp2_with fail
        go_roundw
        case rel => exact ⟨p + 1, ts, hlt, by omega, by go_num, HN.out, hT, HB.out⟩
        case measure => simp [intOf]; omega
      have b9 : ((s[p].toNat : Int) == 9) = false := (u8_eq (n := 9)).trans (beq_eq_false_iff_ne.2 c9)
      by_cases c10 : s[p].toNat = 10
      · have b10 : ((s[p].toNat : Int) == 10) = true := (u8_eq (n := 10)).trans (by rw [c10]; rfl)
        have HN := Lib.hid (show lexTo ts (lexL s.data.toList (p + 1)) = R by rw [← lx_blank hlt (by unfold blankC; rw [c10]; rfl)]; exact hR.out)
        clear c10 hR
        go_wp2_with fail
        go_roundw
        case rel => exact ⟨p + 1, ts, hlt, by omega, by go_num, HN.out, hT, HB.out⟩
        case measure => simp [intOf]; omega
      have b10 : ((s[p].toNat : Int) == 10) = false := (u8_eq (n := 10)).trans (beq_eq_false_iff_ne.2 c10)
      have hblank : blankC s[p] = false := by unfold blankC; rw [beq_eq_false_iff_ne.2 c32, beq_eq_false_iff_ne.2 c9, beq_eq_false_iff_ne.2 c10]; rfl
      clear c32 c9 c10
      by_cases c59 : s[p].toNat = 59
      · have b59 : ((s[p].toNat : Int) == 59) = true := (u8_eq (n := 59)).trans (by rw [c59]; rfl)
        have hle := runL_at lineC s p hp
        obtain ⟨E, hE⟩ : ∃ E, p + runL lineC (s.data.toList.drop p) = E := ⟨_, rfl⟩
        have HE := Lib.hid hE
        have HN := Lib.hid (show lexTo ts (lexL s.data.toList E) = R by rw [← hE, ← lx_note hlt c59]; exact hR.out)
        have hE1 : p < E := by
          rw [← hE, drop_at s p hlt, runL_yes (by unfold lineC; rw [c59]; rfl)]; omega
        rw [hE] at hle
        clear hE c59 hR hblank
        go_wp2_with fail
        go_loop [5] (fun i => ∃ k : Nat, k ≤ s.size ∧ i = .int .i64 k ∧ Hid (k + runL lineC (s.data.toList.drop k) = E)) (fun i => s.size - (intOf i).toNat)
        case atStart => exact ⟨p, hp, rfl, HE.out⟩
        case round =>
          obtain ⟨k, hk, rfl, hq⟩ := hrel
          by_cases hk2 : k < s.size
          · have hd := hq.out
            rw [drop_at s k hk2] at hd
            by_cases d10 : s[k].toNat = 10
            · have f10 : ((s[k].toNat : Int) == 10) = true := (u8_eq (n := 10)).trans (by rw [d10]; rfl)
              have e10 : ((s[k].toNat : Int) != 10) = false := by rw [bne, f10]; rfl
              rw [runL_no (by unfold lineC; rw [d10]; rfl)] at hd
              obtain rfl : k = E := by omega
              clear hd hq d10 HE
              go_wp2_with fail
              go_roundw
              case rel => exact ⟨k, ts, hk, by omega, rfl, HN.out, hT, HB.out⟩
              case measure => simp [intOf]; omega
            · have f10 : ((s[k].toNat : Int) == 10) = false := (u8_eq (n := 10)).trans (beq_eq_false_iff_ne.2 d10)
              have e10 : ((s[k].toNat : Int) != 10) = true := by rw [bne, f10]; rfl
              rw [runL_yes (by unfold lineC; rw [beq_eq_false_iff_ne.2 d10]; rfl)] at hd
              have HQ := Lib.hid (show k + 1 + runL lineC (s.data.toList.drop (k + 1)) = E by omega)
              clear hd hq d10
              go_wp2_with fail
              go_round
              case rel => exact ⟨k + 1, hk2, by go_num, HQ.out⟩
              case measure => simp [intOf]; omega
          · have hd := hq.out
            rw [List.drop_of_length_le (by rw [HSL.out]; omega)] at hd
            obtain rfl : k = E := by simpa [runL] using hd
            clear hd hq HE
            go_wp2_with fail
            go_roundw
            case rel => exact ⟨k, ts, hk, by omega, rfl, HN.out, hT, HB.out⟩
            case measure => simp [intOf]; omega
      have b59 : ((s[p].toNat : Int) == 59) = false := (u8_eq (n := 59)).trans (beq_eq_false_iff_ne.2 c59)
      have hsk := lx_skip hlt hblank c59
      have HSKP := Lib.hid hsk
      clear hblank c59 hsk
      by_cases c40 : s[p].toNat = 40
      · have b40 : ((s[p].toNat : Int) == 40) = true := (u8_eq (n := 40)).trans (by rw [c40]; rfl)
        have HN := Lib.hid (show lexTo (ts ++ [⟨1, [40], p⟩]) (lexL s.data.toList (p + 1)) = R by
          have h0 := lx_tok hR.out hlt (lx_skip hlt (by unfold blankC; rw [c40]; rfl) (by omega)) (by rw [drop_at s p hlt]; exact next_open c40)
          rw [drop_at s p hlt, List.take_succ_cons, List.take_zero, show s[p] = 40 from UInt8.toNat_inj.1 (by rw [c40]; rfl)] at h0
          exact h0)
        clear c40 hR
        go_wp2_with (at_builtin; refine wpList_append_lies _ rfl _ _ 47 rfl w.heap.size 79 i0 _ 3 32 (by kernel_rfl) HI.out.1 HI.out.2.1 HI.out.2.2.1 HI.out.2.2.2 rfl (by decide) _ ts.length (cells3 ts) rfl (toks_later hT.out ((Below.refl _ _).alloc (Nat.le_refl _) _)) _ 1 1 (cells3 [⟨1, [40], p⟩]) rfl rfl ?news ?one (by decide) ?max ?bytes ?base _ rfl ?next)
        case news => first | exact news_tok _ _ _ | (intro j u h; exact h)
        case one => intro v hv; simp [cells3] at hv; rcases hv with rfl | rfl | rfl <;> rfl
        case max => unfold maxLen; omega
        case bytes => omega
        case base => first | (simp; omega) | omega
        case next =>
          intro g cap3 w3 hown hgrow hat _
          have HT2 := Lib.hid (toks_step hown)
          have HB2 := Lib.hid ((HB.out.alloc hB2 _).grown hgrow (by first | (simp; omega) | omega) (toks_above hT.out))
          clear hown hgrow hat
          go_wp2_with fail
          go_roundw
          case rel => exact ⟨p + 1, ts ++ [⟨1, [40], p⟩], by omega, by simp; omega, by go_num, HN, HT2, HB2.out⟩
          case measure => simp [intOf]; omega
      have b40 : ((s[p].toNat : Int) == 40) = false := (u8_eq (n := 40)).trans (beq_eq_false_iff_ne.2 c40)
      by_cases c41 : s[p].toNat = 41
      · have b41 : ((s[p].toNat : Int) == 41) = true := (u8_eq (n := 41)).trans (by rw [c41]; rfl)
        have HN := Lib.hid (show lexTo (ts ++ [⟨2, [41], p⟩]) (lexL s.data.toList (p + 1)) = R by
          have h0 := lx_tok hR.out hlt (lx_skip hlt (by unfold blankC; rw [c41]; rfl) (by omega)) (by rw [drop_at s p hlt]; exact next_close c41)
          rw [drop_at s p hlt, List.take_succ_cons, List.take_zero, show s[p] = 41 from UInt8.toNat_inj.1 (by rw [c41]; rfl)] at h0
          exact h0)
        clear c41 hR
        go_wp2_with (at_builtin; refine wpList_append_lies _ rfl _ _ 47 rfl w.heap.size 79 i0 _ 3 32 (by kernel_rfl) HI.out.1 HI.out.2.1 HI.out.2.2.1 HI.out.2.2.2 rfl (by decide) _ ts.length (cells3 ts) rfl (toks_later hT.out ((Below.refl _ _).alloc (Nat.le_refl _) _)) _ 1 1 (cells3 [⟨2, [41], p⟩]) rfl rfl ?news ?one (by decide) ?max ?bytes ?base _ rfl ?next)
        case news => first | exact news_tok _ _ _ | (intro j u h; exact h)
        case one => intro v hv; simp [cells3] at hv; rcases hv with rfl | rfl | rfl <;> rfl
        case max => unfold maxLen; omega
        case bytes => omega
        case base => first | (simp; omega) | omega
        case next =>
          intro g cap3 w3 hown hgrow hat _
          have HT2 := Lib.hid (toks_step hown)
          have HB2 := Lib.hid ((HB.out.alloc hB2 _).grown hgrow (by first | (simp; omega) | omega) (toks_above hT.out))
          clear hown hgrow hat
          go_wp2_with fail
          go_roundw
          case rel => exact ⟨p + 1, ts ++ [⟨2, [41], p⟩], by omega, by simp; omega, by go_num, HN, HT2, HB2.out⟩
          case measure => simp [intOf]; omega
      have b41 : ((s[p].toNat : Int) == 41) = false := (u8_eq (n := 41)).trans (beq_eq_false_iff_ne.2 c41)
      have HLC := Lib.hid (HPL.out s[p])
      cases cl : letterC s[p] with
      | true =>
        rw [cl] at HLC
        obtain ⟨n, hn⟩ : ∃ n, runL wordC (s.data.toList.drop p) = n := ⟨_, rfl⟩
        have hle := runL_at wordC s p hp
        rw [hn] at hle
        have hn1 : 1 ≤ n := by rw [← hn, drop_at s p hlt, runL_yes (by unfold wordC; rw [cl]; rfl)]; omega
        obtain ⟨E, hE⟩ : ∃ E, p + n = E := ⟨_, rfl⟩
        obtain ⟨c, hc⟩ : ∃ c, (s.data.toList.drop p).take n = c := ⟨_, rfl⟩
        have HE := Lib.hid (show p + runL wordC (s.data.toList.drop p) = E by rw [hn]; exact hE)
        have hsub : IntKind.i64.wrap ((E : Int) - (p : Int)) = (n : Int) := by rw [← hE, show ((p + n : Nat) : Int) - (p : Int) = n by omega]; exact IntWalk.i64_in _ (by omega)
        have hsli : ∀ w', (Instr.slice 9 (.string s) (some (.int .i64 (p : Int))) (some (.int .i64 (E : Int))) none).run Tryd.prog w' = .ok (.string ⟨c.toArray⟩) w' := fun w' => by
          rw [slice_two w' s p E rfl (by omega) (by omega), Lib.extract_eq, ← hE, Nat.add_sub_cancel_left, hc]
        have HLONG := Lib.hid (show 20 < n → R = (ts, some p) from fun h => lx_bad hR.out hlt HSKP.out (by rw [drop_at s p hlt]; exact next_long c40 c41 cl (by rw [← drop_at s p hlt, hn]; exact h)))
        have HSHORT := Lib.hid (show ¬ 20 < n → lexTo (ts ++ [⟨3, c, p⟩]) (lexL s.data.toList E) = R from fun h => by
          have h0 := lx_tok hR.out hlt HSKP.out (k := 3) (n := n) (by rw [drop_at s p hlt, next_word c40 c41 cl (by rw [← drop_at s p hlt, hn]; exact h), ← drop_at s p hlt, hn])
          rw [hc, hE] at h0; exact h0)
        have hpE : p < E := by omega
        have hEs : E ≤ s.size := by omega
        clear hE hc hn hR c40 c41 cl hle
        go_wp2_with fail
        refine (HLC.out _).mono ?_
        rintro e w1 ⟨rfl, rfl⟩
        go_wp2_with fail
        go_loop [7] (fun i => ∃ k : Nat, k ≤ s.size ∧ i = .int .i64 k ∧ Hid (k + runL wordC (s.data.toList.drop k) = E)) (fun i => s.size - (intOf i).toNat)
        case atStart => exact ⟨p, hp, rfl, HE.out⟩
        case round =>
          obtain ⟨k, hk, rfl, hq⟩ := hrel
          by_cases hk2 : k < s.size
          · have hd := hq.out
            rw [drop_at s k hk2] at hd
            have HKL := Lib.hid (HPL.out s[k])
            have HKD := Lib.hid (HPD.out s[k])
            cases d1 : letterC s[k] with
            | true =>
              rw [d1] at HKL
              rw [runL_yes (by unfold wordC; rw [d1]; rfl)] at hd
              have HQ := Lib.hid (show k + 1 + runL wordC (s.data.toList.drop (k + 1)) = E by omega)
              clear hd hq d1 hsub hsli
              go_wp2_with fail
              refine (HKL.out _).mono ?_
              rintro e w1 ⟨rfl, rfl⟩
              go_wp2_with fail
              go_round
              case rel => exact ⟨k + 1, hk2, by go_num, HQ.out⟩
              case measure => simp [intOf]; omega
            | false =>
              rw [d1] at HKL
              cases d2 : isd s[k] with
              | true =>
                rw [d2] at HKD
                rw [runL_yes (by unfold wordC; rw [d1, d2]; rfl)] at hd
                have HQ := Lib.hid (show k + 1 + runL wordC (s.data.toList.drop (k + 1)) = E by omega)
                clear hd hq d1 d2 hsub hsli
                go_wp2_with fail
                refine (HKL.out _).mono ?_
                rintro e w1 ⟨rfl, rfl⟩
                go_wp2_with fail
                refine (HKD.out _).mono ?_
                rintro e w1 ⟨rfl, rfl⟩
                go_wp2_with fail
                go_round
                case rel => exact ⟨k + 1, hk2, by go_num, HQ.out⟩
                case measure => simp [intOf]; omega
              | false =>
                rw [d2] at HKD
                rw [runL_no (by unfold wordC; rw [d1, d2]; rfl)] at hd
                obtain rfl : k = E := by omega
                clear hd hq d1 d2 HE
                go_wp2_with fail
                refine (HKL.out _).mono ?_
                rintro e w1 ⟨rfl, rfl⟩
                go_wp2_with fail
                refine (HKD.out _).mono ?_
                rintro e w1 ⟨rfl, rfl⟩
                by_cases h20 : 20 < n
                · have h20' : 20 < (n : Int) := by omega
                  have HF := Lib.hid (HLONG.out h20)
                  go_wp2
                  go_ret2
                  exact ⟨HB.out, by rw [HF.out]; exact ⟨_, hT.out, rfl⟩⟩
                · have h20' : ¬ 20 < (n : Int) := by omega
                  have HF := Lib.hid (HSHORT.out h20)
                  go_wp2_with (at_builtin; refine wpList_append_lies _ rfl _ _ 47 rfl w.heap.size 79 i0 _ 3 32 (by kernel_rfl) HI.out.1 HI.out.2.1 HI.out.2.2.1 HI.out.2.2.2 rfl (by decide) _ ts.length (cells3 ts) rfl (toks_later hT.out ((Below.refl _ _).alloc (Nat.le_refl _) _)) _ 1 1 (cells3 [⟨3, c, p⟩]) rfl rfl ?news ?one (by decide) ?max ?bytes ?base _ rfl ?next)
                  case news => first | exact news_tok _ _ _ | (intro j u h; exact h)
                  case one => intro v hv; simp [cells3] at hv; rcases hv with rfl | rfl | rfl <;> rfl
                  case max => unfold maxLen; omega
                  case bytes => omega
                  case base => first | (simp; omega) | omega
                  case next =>
                    intro g cap3 w3 hown hgrow hat _
                    have HT2 := Lib.hid (toks_step hown)
                    have HB2 := Lib.hid ((HB.out.alloc hB2 _).grown hgrow (by first | (simp; omega) | omega) (toks_above hT.out))
                    clear hown hgrow hat
                    go_wp2_with fail
                    go_roundw
                    case rel => exact ⟨k, ts ++ [⟨3, c, p⟩], by omega, by simp; omega, rfl, HF, HT2, HB2.out⟩
                    case measure => simp [intOf]; omega
          · have hd := hq.out
            rw [List.drop_of_length_le (by rw [HSL.out]; omega)] at hd
            obtain rfl : k = E := by simpa [runL] using hd
            clear hd hq HE
            by_cases h20 : 20 < n
            · have h20' : 20 < (n : Int) := by omega
              have HF := Lib.hid (HLONG.out h20)
              go_wp2
              go_ret2
              exact ⟨HB.out, by rw [HF.out]; exact ⟨_, hT.out, rfl⟩⟩
            · have h20' : ¬ 20 < (n : Int) := by omega
              have HF := Lib.hid (HSHORT.out h20)
              go_wp2_with (at_builtin; refine wpList_append_lies _ rfl _ _ 47 rfl w.heap.size 79 i0 _ 3 32 (by kernel_rfl) HI.out.1 HI.out.2.1 HI.out.2.2.1 HI.out.2.2.2 rfl (by decide) _ ts.length (cells3 ts) rfl (toks_later hT.out ((Below.refl _ _).alloc (Nat.le_refl _) _)) _ 1 1 (cells3 [⟨3, c, p⟩]) rfl rfl ?news ?one (by decide) ?max ?bytes ?base _ rfl ?next)
              case news => first | exact news_tok _ _ _ | (intro j u h; exact h)
              case one => intro v hv; simp [cells3] at hv; rcases hv with rfl | rfl | rfl <;> rfl
              case max => unfold maxLen; omega
              case bytes => omega
              case base => first | (simp; omega) | omega
              case next =>
                intro g cap3 w3 hown hgrow hat _
                have HT2 := Lib.hid (toks_step hown)
                have HB2 := Lib.hid ((HB.out.alloc hB2 _).grown hgrow (by first | (simp; omega) | omega) (toks_above hT.out))
                clear hown hgrow hat
                go_wp2_with fail
                go_roundw
                case rel => exact ⟨k, ts ++ [⟨3, c, p⟩], by omega, by simp; omega, rfl, HF, HT2, HB2.out⟩
                case measure => simp [intOf]; omega
      | false =>
        rw [cl] at HLC
        have HDC := Lib.hid (HPD.out s[p])
        cases cd : isd s[p] with
        | true =>
          rw [cd] at HDC
          obtain ⟨n, hn⟩ : ∃ n, runL isd (s.data.toList.drop p) = n := ⟨_, rfl⟩
          have hle := runL_at isd s p hp
          rw [hn] at hle
          have hn1 : 1 ≤ n := by rw [← hn, drop_at s p hlt, runL_yes cd]; omega
          obtain ⟨E, hE⟩ : ∃ E, p + n = E := ⟨_, rfl⟩
          obtain ⟨c, hc⟩ : ∃ c, (s.data.toList.drop p).take n = c := ⟨_, rfl⟩
          have HE := Lib.hid (show p + runL isd (s.data.toList.drop p) = E by rw [hn]; exact hE)
          have hsli : ∀ w', (Instr.slice 9 (.string s) (some (.int .i64 (p : Int))) (some (.int .i64 (E : Int))) none).run Tryd.prog w' = .ok (.string ⟨c.toArray⟩) w' := fun w' => by
            rw [slice_two w' s p E rfl (by omega) (by omega), Lib.extract_eq, ← hE, Nat.add_sub_cancel_left, hc]
          have hcl : c.length ≤ s.size := by rw [← hc, List.length_take, List.length_drop, HSL.out]; omega
          have HG := Lib.hid (fun w => HGET.out ⟨c.toArray⟩ w (by show c.toArray.size ≤ maxLen; unfold maxLen; simp; omega))
          rw [show (ByteArray.mk c.toArray).data.toList = c from rfl] at HG
          have HBAD := Lib.hid (show (getB c = none ∨ (((s.data.toList.drop E).head?.map letterC).getD false) = true) → R = (ts, some p) from fun h => lx_bad hR.out hlt HSKP.out (by
            rw [drop_at s p hlt]; exact next_bad c40 c41 cl cd (by rw [← drop_at s p hlt, hn, hc, List.drop_drop, hE]; exact h)))
          have HGOOD := Lib.hid (show getB c ≠ none → (((s.data.toList.drop E).head?.map letterC).getD false) = false → lexTo (ts ++ [⟨4, c, p⟩]) (lexL s.data.toList E) = R from fun h h' => by
            have h0 := lx_tok hR.out hlt HSKP.out (k := 4) (n := n) (by
              rw [drop_at s p hlt, next_num c40 c41 cl cd (by rw [← drop_at s p hlt, hn, hc, List.drop_drop, hE]; rintro (h1 | h1); exact h h1; rw [h'] at h1; cases h1), ← drop_at s p hlt, hn])
            rw [hc, hE] at h0; exact h0)
          have hpE : p < E := by omega
          have hEs : E ≤ s.size := by omega
          clear hE hc hn hR c40 c41 cl cd hle hcl
          go_wp2_with fail
          refine (HLC.out _).mono ?_
          rintro e w1 ⟨rfl, rfl⟩
          go_wp2_with fail
          refine (HDC.out _).mono ?_
          rintro e w1 ⟨rfl, rfl⟩
          go_wp2_with fail
          go_loop [7] (fun i => ∃ k : Nat, k ≤ s.size ∧ i = .int .i64 k ∧ Hid (k + runL isd (s.data.toList.drop k) = E)) (fun i => s.size - (intOf i).toNat)
          case atStart => exact ⟨p, hp, rfl, HE.out⟩
          case round =>
            obtain ⟨k, hk, rfl, hq⟩ := hrel
            by_cases hk2 : k < s.size
            · have hd := hq.out
              rw [drop_at s k hk2] at hd
              have HKD := Lib.hid (HPD.out s[k])
              cases d2 : isd s[k] with
              | true =>
                rw [d2] at HKD
                rw [runL_yes d2] at hd
                have HQ := Lib.hid (show k + 1 + runL isd (s.data.toList.drop (k + 1)) = E by omega)
                clear hd hq d2 hsli
                go_wp2_with fail
                refine (HKD.out _).mono ?_
                rintro e w1 ⟨rfl, rfl⟩
                go_wp2_with fail
                go_round
                case rel => exact ⟨k + 1, hk2, by go_num, HQ.out⟩
                case measure => simp [intOf]; omega
              | false =>
                rw [d2] at HKD
                rw [runL_no d2] at hd
                obtain rfl : k = E := by omega
                clear hd hq d2 HE
                go_wp2_with fail
                refine (HKD.out _).mono ?_
                rintro e w1 ⟨rfl, rfl⟩
                cases hg : getB c with
                | none =>
                  have HF := Lib.hid (HBAD.out (Or.inl hg))
                  rw [getV_none hg] at HG
                  clear hg
                  go_wp2_with fail
                  refine (HG.out _).mono ?_
                  rintro e w1 ⟨rfl, rfl⟩
                  go_wp2
                  go_ret2
                  exact ⟨HB.out, by rw [HF.out]; exact ⟨_, hT.out, rfl⟩⟩
                | some v =>
                  rw [getV_some hg] at HG
                  have HKL := Lib.hid (HPL.out s[k])
                  cases d1 : letterC s[k] with
                  | true =>
                    rw [d1] at HKL
                    have HF := Lib.hid (HBAD.out (Or.inr (by rw [drop_at s k hk2]; exact d1)))
                    clear hg d1
                    go_wp2_with fail
                    refine (HG.out _).mono ?_
                    rintro e w1 ⟨rfl, rfl⟩
                    go_wp2_with fail
                    refine (HKL.out _).mono ?_
                    rintro e w1 ⟨rfl, rfl⟩
                    go_wp2
                    go_ret2
                    exact ⟨HB.out, by rw [HF.out]; exact ⟨_, hT.out, rfl⟩⟩
                  | false =>
                    rw [d1] at HKL
                    have HF := Lib.hid (HGOOD.out (by rw [hg]; simp) (by rw [drop_at s k hk2]; exact d1))
                    clear hg d1
                    go_wp2_with fail
                    refine (HG.out _).mono ?_
                    rintro e w1 ⟨rfl, rfl⟩
                    go_wp2_with fail
                    refine (HKL.out _).mono ?_
                    rintro e w1 ⟨rfl, rfl⟩
                    go_wp2_with (at_builtin; refine wpList_append_lies _ rfl _ _ 47 rfl w.heap.size 79 i0 _ 3 32 (by kernel_rfl) HI.out.1 HI.out.2.1 HI.out.2.2.1 HI.out.2.2.2 rfl (by decide) _ ts.length (cells3 ts) rfl (toks_later hT.out ((Below.refl _ _).alloc (Nat.le_refl _) _)) _ 1 1 (cells3 [⟨4, c, p⟩]) rfl rfl ?news ?one (by decide) ?max ?bytes ?base _ rfl ?next)
                    case news => first | exact news_tok _ _ _ | (intro j u h; exact h)
                    case one => intro v hv; simp [cells3] at hv; rcases hv with rfl | rfl | rfl <;> rfl
                    case max => unfold maxLen; omega
                    case bytes => omega
                    case base => first | (simp; omega) | omega
                    case next =>
                      intro g cap3 w3 hown hgrow hat _
                      have HT2 := Lib.hid (toks_step hown)
                      have HB2 := Lib.hid ((HB.out.alloc hB2 _).grown hgrow (by first | (simp; omega) | omega) (toks_above hT.out))
                      clear hown hgrow hat
                      go_wp2_with fail
                      go_roundw
                      case rel => exact ⟨k, ts ++ [⟨4, c, p⟩], by omega, by simp; omega, rfl, HF, HT2, HB2.out⟩
                      case measure => simp [intOf]; omega
            · have hd := hq.out
              rw [List.drop_of_length_le (by rw [HSL.out]; omega)] at hd
              obtain rfl : k = E := by simpa [runL] using hd
              clear hd hq HE
              cases hg : getB c with
              | none =>
                have HF := Lib.hid (HBAD.out (Or.inl hg))
                rw [getV_none hg] at HG
                clear hg
                go_wp2_with fail
                refine (HG.out _).mono ?_
                rintro e w1 ⟨rfl, rfl⟩
                go_wp2
                go_ret2
                exact ⟨HB.out, by rw [HF.out]; exact ⟨_, hT.out, rfl⟩⟩
              | some v =>
                rw [getV_some hg] at HG
                have HF := Lib.hid (HGOOD.out (by rw [hg]; simp) (by rw [List.drop_of_length_le (by rw [HSL.out]; omega)]; rfl))
                clear hg
                go_wp2_with fail
                refine (HG.out _).mono ?_
                rintro e w1 ⟨rfl, rfl⟩
                go_wp2_with (at_builtin; refine wpList_append_lies _ rfl _ _ 47 rfl w.heap.size 79 i0 _ 3 32 (by kernel_rfl) HI.out.1 HI.out.2.1 HI.out.2.2.1 HI.out.2.2.2 rfl (by decide) _ ts.length (cells3 ts) rfl (toks_later hT.out ((Below.refl _ _).alloc (Nat.le_refl _) _)) _ 1 1 (cells3 [⟨4, c, p⟩]) rfl rfl ?news ?one (by decide) ?max ?bytes ?base _ rfl ?next)
                case news => first | exact news_tok _ _ _ | (intro j u h; exact h)
                case one => intro v hv; simp [cells3] at hv; rcases hv with rfl | rfl | rfl <;> rfl
                case max => unfold maxLen; omega
                case bytes => omega
                case base => first | (simp; omega) | omega
                case next =>
                  intro g cap3 w3 hown hgrow hat _
                  have HT2 := Lib.hid (toks_step hown)
                  have HB2 := Lib.hid ((HB.out.alloc hB2 _).grown hgrow (by first | (simp; omega) | omega) (toks_above hT.out))
                  clear hown hgrow hat
                  go_wp2_with fail
                  go_roundw
                  case rel => exact ⟨k, ts ++ [⟨4, c, p⟩], by omega, by simp; omega, rfl, HF, HT2, HB2.out⟩
                  case measure => simp [intOf]; omega
        | false =>
          rw [cd] at HDC
          have HF := Lib.hid (lx_bad hR.out hlt HSKP.out (by rw [drop_at s p hlt]; exact next_other c40 c41 cl cd))
          clear hR c40 c41 cl cd
          go_wp2_with fail
          refine (HLC.out _).mono ?_
          rintro e w1 ⟨rfl, rfl⟩
          go_wp2_with fail
          refine (HDC.out _).mono ?_
          rintro e w1 ⟨rfl, rfl⟩
          go_wp2
          go_ret2
          exact ⟨HB.out, by rw [HF.out]; exact ⟨_, hT.out, rfl⟩⟩
    · have : p = s.size := by omega
      have hf := lexL_end (l := s.data.toList) (p := p) (by rw [HSL.out]; omega)
      have HF := Lib.hid (show R = (ts, none) by rw [← hR.out, hf]; simp [lexTo])
      clear hf hR
      subst this
      go_wp2
      go_ret2
      exact ⟨HB.out, by rw [HF.out]; exact ⟨_, hT.out, rfl⟩⟩
end Go.Proofs.YtlalolnhpcbjnaaDoor
