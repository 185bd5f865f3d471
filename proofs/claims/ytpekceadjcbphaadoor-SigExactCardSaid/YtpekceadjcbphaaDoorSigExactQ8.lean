/-
  SigExact holds: for every input the call returns true, and the arguments read as before. No condition.
-/
import Derived.Lib.ItoaNum
import Derived.Lib.ItoaLen
import Derived.Test.YtpekceadjcbphaaDoorRows
import Derived.WalkKit
import Derived.Lib.Hide
import Derived.ProofKit
import Derived.LoopTactic
import Derived.Below
import Derived.IntWalk
import Derived.Lib.Strings
import Derived.Laws.Strings2
import Derived.Deep.AppendLies
import Derived.Laws.Rows
import Derived.OwnWalk
import Derived.KernelRfl
import Derived.Deep.RegionHeld3
import Derived.Lib.Builder
import Derived.WalkSmall
import Derived.Maps.GroupsBeside
import Derived.Maps.StringElems
import Derived.Laws.OwnMore
import Derived.Deep.RegionLaw
import Derived.Maps.AppendAt
import Derived.Deep.Cut
import Derived.Deep.DeepCutAuto
import Derived.Maps.OwnOps
import Derived.Maps.OwnSet
import Derived.Lib.MinMax
import Derived.Laws.IdiomCopy
import Derived.Deep.Slices
import Derived.Lib.QuietBelow
import Derived.StillTailTactics
import Derived.BigQuiet
import Derived.Deep.RegionWith
import Derived.OrdersHeld
import Derived.Recover
import Derived.RegionTactic
import Derived.Defers
import Derived.Laws.StructEq
import GoSem.Core.Float
import Derived.Laws.Cover2
import Derived.Laws.FloatArith
import Derived.Laws.Externs
import Derived.Deep.QuietTactic
import Derived.Deep.CutBlock
import Derived.Deep.LoopGhost
import Derived.Test.YtpekceadjcbphaaDoorShelf
import Derived.Lib.AppendIntMem
import Derived.Lib.LaidTab
import Derived.OpenShut
import Derived.Carry
import Derived.LaidMore
import Derived.LaidSub
import Derived.LaidHandle
import Derived.Stop.Joined
import Derived.JoinedOf
import Derived.Test.YtpekceadjcbphaaDoorCards
import Derived.Test.YtpekceadjcbphaaDoorTie
import Derived.SevenTiedAt
import Derived.ChangeMaps5
import Derived.Test.YtpekceadjcbphaaDoorSigExactQ7
namespace Go.Proofs.YtpekceadjcbphaaDoor.Sg
open Go.RowKit Go.Maps Go.ChangeShapes
open Rt (strV below_gr below_of cell_gr cell_lt strs_one wpList_append_strs)
open Dv (hltD typeD)

theorem tok_fld (t : Tok) (w' : World) : (Instr.field 63 (.agg #[.int .i64 t.k, .string ⟨t.s.toArray⟩, .int .i64 t.at_]) 1).run Tryd.prog w' = .ok (.string ⟨t.s.toArray⟩) w' := by kernel_rfl
theorem stop_ld {P : Program} {ops : Array Oper} {rest : List Oper} {o : Oper} {a : Act} {w : World} {Q : Exit → Act → World → Prop} (ty : TypeId) (x : Operand) (_ : o.op = .load ty x) (h : True → wpList P ops Q (o :: rest) a w) : wpList P ops Q (o :: rest) a w := h trivial
/-- What At gives. -/
def AtG (pl : Plan) (i j : Int) (w : World) (e : Ending) (w' : World) : Prop := ∃ ps ts bs, e = .returned (.tuple #[.agg (symV pl.name ps ts bs (typeT pl i j) (bodyT pl i j) pl.defn), .bool true]) ∧ LiesP w' (Own w.heap.size w') (parsT i j [] pl.pars) ps ∧ LiesP w' (Own w.heap.size w') (typeT pl i j).kids ts ∧ LiesP w' (Own w.heap.size w') (bodyT pl i j).kids bs ∧ (typeT pl i j).fine ∧ (bodyT pl i j).fine ∧ Below w.heap.size w w'
theorem own_alloc_nil (w : World) : w.ownsRow 0 9 1 (.slice none 0 0) 0 [] := ⟨rfl, Or.inl ⟨rfl, rfl⟩⟩
def CallsTerm (c : LC) (l : List UInt8) (w0 : World) : Prop := ∀ (nS : Nat) (sy : Array Value) (tv nv : Value) (q rF : List Tok) (N : Names) (p : List UInt8) (w : World), AS w0 c nS sy tv nv q N w → pieceL l q = some (p, rF) → q.length + N.length ≤ 2000 → (∀ y ∈ N, y.length ≤ 2000) → Calls Tryd.prog 29 #[.pointer (some ⟨c.R, 0, none⟩)] w (LtG c p N nv rF w)
theorem callsTerm_of {c : LC} {l : List UInt8} {w0 : World} {B : Nat} (ht : c.txt = ⟨l.toArray⟩) (hl : l.length ≤ 2000) (hT : TabsR B w0) (hB : B ≤ w0.heap.size) : CallsTerm c l w0 := by
  intro nS sy tv nv q rF N p w h hp hq hN
  have hsz : c.txt.size = l.length := by rw [ht]; simp [ByteArray.size]
  have hld : c.txt.data.toList = l := by rw [ht]
  cases q with
  | nil => cases hp
  | cons t0 r0 =>
    obtain ⟨la, hcl, rfl, hb1, hb2⟩ := pieceL_some hp
    simp only [List.length_cons] at hq
    have := lterm_any c tv nv t0 la r0 rF N w h.a.st hcl (by omega) (B := B) ⟨by have := h.a.h1; omega, by have := h.a.bel.size; omega⟩ (hT.keep (h.a.bel.mono hB)) (by omega) ⟨by omega, fun y hy => by have := hN y hy; omega⟩ hb1 (by omega)
    rw [hld] at this
    exact this
set_option maxHeartbeats 4000000 in
set_option maxRecDepth 20000 in
theorem at_some (n : Nat) (m i j : Int) (w : World) {l : List UInt8} {ts : List Tok} {pl : Plan} (hl : libL[n]? = some l) (hm : m = (n : Int) + 1) (hi : 0 ≤ i ∧ i ≤ 999) (hj : 0 ≤ j ∧ j ≤ 999) {B : Nat} (hT : TabsR B w) (hB : B ≤ w.heap.size) (hlex : lexL l 0 = (ts, none)) (hp : planL l ts = some pl) : Calls Tryd.prog 12 #[.int .i64 m, .int .i64 i, .int .i64 j] w (AtG pl i j w) := by
  obtain ⟨du, hu1, hu2⟩ := under_sym
  have hmem : l ∈ libL := List.mem_of_getElem? hl
  have hlen := lib_len l hmem
  have hn21 : n < 21 := by
    have h := (List.getElem?_eq_some_iff.1 hl).1
    have e : libL.length = 21 := rfl
    omega
  obtain ⟨t0, t1, t2, t3, r, te, r2, r3, rfl, hps, hty, hnm, hdef, hbd, hnb⟩ := planL_some hp
  have hcnt := lexL_few hlex
  have htk := (lexL_bound (l := l) l.length 0 (by omega)).2.1
  rw [hlex] at htk
  have HTK := Lib.hid (show ∀ t ∈ t0 :: t1 :: t2 :: t3 :: r, t.s.length ≤ 2000 from fun t ht => by have := (htk t ht).1; omega)
  have HCNT := Lib.hid (show (t0 :: t1 :: t2 :: t3 :: r).length ≤ 2000 from by omega)
  have HPS := Lib.hid hps
  have HTY := Lib.hid hty
  have HBD := Lib.hid hbd
  have HNB := Lib.hid hnb
  have HNM := Lib.hid hnm
  have HLX := Lib.hid hlex
  have HTT := Lib.hid hT
  have HB0 := Lib.hid hB
  have HLEN := Lib.hid hlen
  have c1 : ¬ m < 1 := by omega
  have c2 : ¬ 21 < m := by omega
  have c3 : ¬ i < 0 := by omega
  have c4 : ¬ 1000 ≤ i := by omega
  have c5 : ¬ j < 0 := by omega
  have c6 : ¬ 1000 ≤ j := by omega
  have hw1 : IntKind.i64.wrap (m - 1) = (n : Int) := by rw [IntWalk.i64_in _ (by omega)]; omega
  have HA := Lib.hid (below_gr ((Below.refl w.heap.size w).alloc (Nat.le_refl _) (.cells zSymA 34)))
  have HZ := Lib.hid (show (w.alloc (.cells zSymA 34)).heap[w.heap.size]? = some (.cells zSymA 34 (0, 0)) from alloc_new _ _)
  have HL := Lib.hid hl
  have HIJ := Lib.hid (show (0 ≤ i ∧ i ≤ 999) ∧ (0 ≤ j ∧ j ≤ 999) from ⟨hi, hj⟩)
  have HDB := Lib.hid (show (t1.s == [100, 101, 102]) = pl.defn by rw [hdef]; by_cases h : t1.s = [100, 101, 102] <;> simp [h])
  clear hl hmem hlen hps hty hnm hdef hbd hnb hcnt htk hlex hT hB hp hi hj hm
  have tfl := tok_fld
  go_enter Tryd.func12, Tryd.ntmps12
  go_wp2_with fail
  refine (lib_any _).mono ?_
  rintro e w1 ⟨g, rfl, hrow, hg1⟩
  have hcl : w1.cell? ⟨g, n, none⟩ = some (.string ⟨l.toArray⟩) := by
    have h := (List.getElem?_eq_some_iff.1 HL.out)
    obtain ⟨h1, h2⟩ := h
    have := hrow n h1
    rw [h2] at this
    exact this
  have HG1 := Lib.hid (HA.out.trans hg1)
  have HR1 := Lib.hid ((hg1.block _ (hltD HZ.out) (by simp)).trans HZ.out)
  clear hrow hg1 HA HZ
  go_wp2_with fail
  refine (lex_any ⟨l.toArray⟩ _ (by simp [ByteArray.size]; have := HLEN.out; omega)).mono ?_
  rintro e w2 ⟨hb2, hx⟩
  rw [show (⟨l.toArray⟩ : ByteArray).data.toList = l from rfl, HLX.out] at hx
  obtain ⟨v, htk, rfl⟩ := hx
  obtain ⟨g0, o0, cap0, rfl, -⟩ := (toks_lies htk).cons
  have hg2 := HG1.out.trans (below_gr hb2)
  have hr2 := (hb2.block _ (hltD HR1.out)).trans HR1.out
  obtain ⟨c, hcR, hct, hci, hcj⟩ : ∃ c : LC, w2.heap.size = c.R ∧ c.txt = ⟨l.toArray⟩ ∧ c.i = i ∧ c.j = j := ⟨⟨w2.heap.size, _, i, j⟩, rfl, rfl, rfl, rfl⟩
  have hbl := ((Below.refl w2.heap.size w2).alloc (Nat.le_refl _) (.cells #[.string ⟨l.toArray⟩, .slice (some ⟨g0, o0, none⟩) (r.length + 1 + 1 + 1 + 1) cap0, .slice none 0 0, .int .i64 i, .int .i64 j] 61))
  have hA0 : A0 w c (.slice (some ⟨g0, o0, none⟩) (r.length + 1 + 1 + 1 + 1) cap0) (.slice none 0 0) (t0 :: t1 :: t2 :: t3 :: r) [] (w2.alloc (.cells #[.string ⟨l.toArray⟩, .slice (some ⟨g0, o0, none⟩) (r.length + 1 + 1 + 1 + 1) cap0, .slice none 0 0, .int .i64 i, .int .i64 j] 61)) := by
    refine ⟨(hbl.block _ (hltD hr2)).trans hr2, ⟨?_, (toks_lies htk).keep fun g cs fz e => (hbl.block g (hltD e)).trans e, own_alloc_nil _⟩, (fun k e => by cases e), below_of (hg2.trans (below_gr hbl)), by have := hltD hr2; omega⟩
    unfold lnO
    rw [← hcR, hct, hci, hcj]
    exact alloc_new _ _
  have HP0 := Lib.hid hA0
  have HCT := Lib.hid (callsTerm_of (c := c) (l := l) (w0 := w) hct HLEN.out HTT.out HB0.out)
  have HCI := Lib.hid (show c.i = i ∧ c.j = j from ⟨hci, hcj⟩)
  clear hA0 hbl hr2 hg2 htk hb2 hct hci hcj hcl HG1 HR1 HTT HL HLX
  go_wp2_with fail
  obtain ⟨V, hV⟩ : ∃ V, V = w2.alloc (.cells #[.string ⟨l.toArray⟩, .slice (some ⟨g0, o0, none⟩) (r.length + 1 + 1 + 1 + 1) cap0, .slice none 0 0, .int .i64 i, .int .i64 j] 61) := ⟨_, rfl⟩
  rw [← hV] at HP0
  rw [← hV]
  clear hV hcR
  refine (ltake_any c _ _ _ _ _ _ HP0.out.st).mono ?_
  rintro e w3 ⟨rfl, ⟨tl1, hs, -⟩, hg⟩
  have HP1 := Lib.hid (HP0.out.gr hs hg)
  clear hs hg
  unfold agT
  go_wp2_with fail
  refine (ltake_any c _ _ _ _ _ _ HP1.out.st).mono ?_
  rintro e w4 ⟨rfl, ⟨tl2, hs, -⟩, hg⟩
  have HP2 := Lib.hid (HP1.out.gr hs hg)
  clear hs hg
  unfold agT
  go_wp2_with fail
  refine (ltake_any c _ _ _ _ _ _ HP2.out.st).mono ?_
  rintro e w5 ⟨rfl, ⟨tl3, hs, -⟩, hg⟩
  have HP3 := Lib.hid (HP2.out.gr hs hg)
  clear hs hg
  unfold agT
  go_wp2_with fail
  rw [HDB.out]
  have hbs := (Below.refl w5.heap.size w5).alloc (Nat.le_refl _) (.cells #[.string ⟨t2.s.toArray⟩, .slice none 0 0, .int .i64 0, .int .i64 0, .int .i64 0, .int .i64 0, .slice none 0 0, .int .i64 0, .int .i64 0, .int .i64 0, .int .i64 0, .slice none 0 0, .bool pl.defn] 34)
  have HS0 := Lib.hid (show AS w c w5.heap.size (symV pl.name (.slice none 0 0) (.slice none 0 0) (.slice none 0 0) Tm.zero Tm.zero pl.defn) tl3 (.slice none 0 0) (t3 :: r) [] (w5.alloc (.cells #[.string ⟨t2.s.toArray⟩, .slice none 0 0, .int .i64 0, .int .i64 0, .int .i64 0, .int .i64 0, .slice none 0 0, .int .i64 0, .int .i64 0, .int .i64 0, .int .i64 0, .slice none 0 0, .bool pl.defn] 34)) from ⟨HP3.out.same (below_gr hbs), by rw [HNM.out]; exact alloc_new _ _, hltD HP3.out.res⟩)
  clear hbs HP0 HP1 HP2 HP3 HDB
  obtain ⟨V, hV⟩ : ∃ V, V = w5.alloc (.cells #[.string ⟨t2.s.toArray⟩, .slice none 0 0, .int .i64 0, .int .i64 0, .int .i64 0, .int .i64 0, .slice none 0 0, .int .i64 0, .int .i64 0, .int .i64 0, .int .i64 0, .slice none 0 0, .bool pl.defn] 34) := ⟨_, rfl⟩
  rw [← hV] at HS0
  rw [← hV]
  clear hV
  obtain ⟨nS, hnS⟩ : ∃ nS, nS = w5.heap.size := ⟨_, rfl⟩
  rw [← hnS] at HS0
  rw [← hnS]
  clear hnS
  refine (ltake_any c _ _ _ _ _ _ HS0.out.a.st).mono ?_
  rintro e w6 ⟨rfl, ⟨tl4, hs, -⟩, hg⟩
  have HS1 := Lib.hid (HS0.out.gr hs hg)
  clear hs hg
  unfold agT
  go_wp2_with fail
  go_loopg [] r.length (fun g wr => ∃ (f : Nat) (q : List Tok) (N : Names) (tl nv psv : Value) (psL : List (Tm × Value)) (rem : List (List UInt8 × List UInt8)), g = q.length ∧ Hid (parsL l f q = some (rem, te :: r2)) ∧ Hid (psL.map (·.1) ++ parsT i j N rem = parsT i j [] pl.pars) ∧ Hid (N ++ rem.map (·.1) = pl.pars.map (·.1)) ∧ Hid (AS w c nS (symV pl.name psv (.slice none 0 0) (.slice none 0 0) Tm.zero Tm.zero pl.defn) tl nv q N wr) ∧ Hid (Made (w.heap.size + 1) wr psv psL) ∧ Hid (q.length + N.length + 4 ≤ 2000 ∧ psL.length + q.length + 4 ≤ 2000 ∧ (∀ y ∈ N, y.length ≤ 2000) ∧ ∀ t ∈ q, t.s.length ≤ 2000))
  case atStart =>
    have hcn := HCNT.out
    simp only [List.length_cons] at hcn
    exact ⟨30, r, [], tl4, _, _, [], pl.pars, rfl, HPS, Lib.hid rfl, Lib.hid rfl, HS1, Lib.hid (made_nil _ _), Lib.hid ⟨by simp; omega, by simp; omega, fun y hy => (by cases hy), fun t ht => HTK.out t (by simp [ht])⟩⟩
  case round =>
    clear HS1 HS0 HPS
    obtain ⟨f, q, N, tl, nv, psv, psL, rem, rfl, HPQ, HPT, HNN, HAS, HMD, HBB⟩ := hrel
    cases f with
    | zero => exact absurd HPQ.out (by simp [parsL])
    | succ f =>
      cases q with
      | nil => exact absurd HPQ.out (by simp [parsL])
      | cons t q =>
        obtain ⟨g1, o1, cap1, rfl, k1, k2, x0, x1, x2, k3, k4⟩ := HAS.out.a.st.tok.cons
        obtain ⟨d0, d1, d2, d3, d4⟩ := HAS.out.a.st.cells
        clear k1 k2 k3 k4 x1 x2 d0 d2 d3 d4
        by_cases hk : t.k = 1
        · have hk1 : ((t.k : Int) == 1) = true := by simp [hk]
          obtain ⟨x, q1, p, cl, q4, ps', rfl, hpc, hrest, rfl⟩ := parsL_go hk HPQ.out
          have HPC := Lib.hid hpc
          have HRE := Lib.hid hrest
          have HLE := Lib.hid (pieceL_len hpc)
          clear HPQ hpc hrest hk
          go_wp2_with fail
          refine (ltake_any c _ _ _ _ _ _ HAS.out.a.st).mono ?_
          rintro e w7 ⟨rfl, ⟨tl7, hs, -⟩, hg⟩
          have HM1 := Lib.hid (made_kt HMD.out (kt_line HAS.out.a.st hg))
          have HA1 := Lib.hid (HAS.out.gr hs hg)
          clear hs hg
          unfold agT
          clear HAS HMD x0 d1 hk1
          go_wp2_with fail
          refine (ltake_any c _ _ _ _ _ _ HA1.out.a.st).mono ?_
          rintro e w8 ⟨rfl, ⟨tl8, hs, -⟩, hg⟩
          have HM2 := Lib.hid (made_kt HM1.out (kt_line HA1.out.a.st hg))
          have HA2 := Lib.hid (HA1.out.gr hs hg)
          clear hs hg
          unfold agT
          clear HA1 HM1
          have HAD := Lib.hid (show AS _ _ _ _ _ _ _ _ w8.drew from HA2.out.same (drew_grw _))
          have HMD := Lib.hid (show Made _ w8.drew _ _ from made_kt HM2.out (kt_none (drew_grw _)))
          have HTERM := Lib.hid (HCT.out nS _ _ _ _ _ _ _ _ HAD.out HPC.out (by have := HBB.out.1; simp only [List.length_cons] at this; omega) HBB.out.2.2.1)
          have y1 : w8.cell? ⟨nS, 1, none⟩ = some psv := by
            have h := HA2.out.sym
            unfold symV at h
            exact (cells13 h).1.2.1
          obtain ⟨i0, hi, hz0, hz1, hz2⟩ := info_parts info_term
          have HI := Lib.hid (And.intro hi (And.intro hz0 (And.intro hz1 hz2)))
          clear hi hz0 hz1 hz2
          go_wp2_with fail
          go_region_law (first
            | (refine step_append_lies _ rfl _ _ 24 rfl (w.heap.size + 1) 26 i0 _ 5 56 (by kernel_rfl) HI.out.1 HI.out.2.1 HI.out.2.2.1 HI.out.2.2.2 rfl (by decide) psv psL.length (cells5 psL) rfl HMA.out.own ⟨w9.heap.size, 0, none⟩ 1 1 (cells5 [(tt, .slice au tt.kids.length cu)]) rfl rfl (news_new _ _ _ _) (one5 _ _) (by decide) (by have := HBB.out.2.1; unfold maxLen; omega) (by have := HBB.out.2.1; omega) (by have := hltD HA3.out.a.res; simp; omega) _ rfl ?_
               intro gq cap3 w10 hown hgrow hat _
               have HM4 := Lib.hid (push_at HMD.out HK9.out HFI.out (hltD HAD.out.a.res) HLP.out _ hown hgrow hat)
               have HA4 := Lib.hid ((HA3.out.same (below_gr ((Below.refl w9.heap.size w9).alloc (Nat.le_refl _) (.cells #[.int .i64 tt.k, .int .i64 tt.i, .int .i64 tt.j, .int .i64 tt.n, .slice au tt.kids.length cu] 26)))).row HMA.out.own hgrow)
               have y2 : w10.cell? ⟨nS, 1, none⟩ = some psv := (by
                 have h := HA4.out.sym
                 unfold symV at h
                 exact (cells13 h).1.2.1)
               have y3 : w10.frozen? ⟨nS, 1, none⟩ = false := Lib.frozen_of_heap HA4.out.sym 1
               clear hown hgrow hat)
            | (go_simp
               go_at_call 29
               ((with_reducible refine Calls.mono HTERM.out ?_)
                rintro e w9 ⟨sv, tl9, rfl, hlp, hfi, hs9, -, hg9⟩
                rw [HCI.out.1, HCI.out.2] at hlp hfi
                rw [HCI.out.1, HCI.out.2]
                obtain ⟨tt, htt⟩ : ∃ tt, outT (readB p N i j) = tt := ⟨_, rfl⟩
                rw [htt] at hlp hfi
                rw [htt]
                have HTX := Lib.hid htt
                have HK9 := Lib.hid (kt_line HAD.out.a.st hg9)
                have HA3 := Lib.hid (HAD.out.gr hs9 hg9)
                have HLP := Lib.hid hlp
                have HFI := Lib.hid hfi
                obtain ⟨au, cu, rfl, -, -⟩ := hlp.out
                have HMA := Lib.hid (made_kt (made_kt HMD.out HK9.out) (kt_none (below_gr ((Below.refl w9.heap.size w9).alloc (Nat.le_refl _) (.cells #[.int .i64 tt.k, .int .i64 tt.i, .int .i64 tt.j, .int .i64 tt.n, .slice au tt.kids.length cu] 26)))))
                have y9 : w9.cell? ⟨nS, 1, none⟩ = some psv := (by
                  have h := HA3.out.sym
                  unfold symV at h
                  exact (cells13 h).1.2.1)
                have hsn : nS < w9.heap.size := hltD HA3.out.sym
                clear hlp hfi hs9 hg9 htt)))
          all_goals
            have hset := HA4.out.set 1 (.slice (some ⟨gq, 0, none⟩) (psL.length + 1) cap3)
            have HA5 := Lib.hid (show AS w c nS (symV pl.name (.slice (some ⟨gq, 0, none⟩) (psL.length + 1) cap3) (.slice none 0 0) (.slice none 0 0) Tm.zero Tm.zero pl.defn) _ _ _ _ _ from hset.1)
            have HM5 := Lib.hid (made_kt HM4.out hset.2)
            clear hset y1 y9 hsn HA2 HAD HMD HM2 HA3 HA4 HM4 HMA HTERM HI HK9
            go_wp2_with fail
            obtain ⟨V, hV⟩ : ∃ V, V = w10.setCell ⟨nS, 1, none⟩ (.slice (some ⟨gq, 0, none⟩) (psL.length + 1) cap3) := ⟨_, rfl⟩
            rw [← hV] at HA5 HM5
            rw [← hV]
            clear hV y2 y3
            refine (ltake_any c _ _ _ _ _ _ HA5.out.a.st).mono ?_
            rintro e w11 ⟨rfl, ⟨tl11, hs, -⟩, hg⟩
            have HM6 := Lib.hid (made_kt HM5.out (kt_line HA5.out.a.st hg))
            have HA6 := Lib.hid (HA5.out.gr hs hg)
            clear hs hg
            unfold agT
            obtain ⟨-, -, d2, -, -⟩ := HA6.out.a.st.cells
            have hrl := HA6.out.a.st.lt
            have hgx := below_gr ((Below.refl w11.heap.size w11).alloc (Nat.le_refl _) (.cells #[.string ⟨x.s.toArray⟩] 9))
            have HAX := Lib.hid (HA6.out.same hgx)
            have HMX := Lib.hid (made_kt HM6.out (kt_none hgx))
            clear hgx HA5 HM5
            go_wp2_with (at_builtin
                         refine wpList_append_strs rfl (.tmp 82) (.tmp 84) rfl nv N.length (N.map strV) rfl HAX.out.a.st.nm ⟨w11.heap.size, 0, none⟩ 1 1 [strV x.s] rfl rfl (World.news_of_block (alloc_new w11 _)) (strs_one [x.s]) (by have := HBB.out.1; omega) ?_
                         intro nv' w12 hown hgn hnil hat
                         obtain ⟨gn, cn, rfl⟩ : ∃ gn cn, nv' = .slice (some ⟨gn, 0, none⟩) (N.length + 1) cn := (by
                           rcases hown.2 with ⟨-, e⟩ | ⟨gn, cn, cur, hv, -⟩
                           · omega
                           · exact ⟨gn, cn, hv⟩)
                         have hnm := HAX.out.name hgn hown hat
                         have hln := HAX.out.line hgn
                         have HA7 := Lib.hid hnm.1
                         have HM7 := Lib.hid (made_kt HMX.out hnm.2)
                         have z1 := hln.1
                         have z2 := hln.2
                         clear hnm hln hown hgn hnil hat)
            go_roundg q4.length
            case measure => have := HLE.out.1; simp only [List.length_cons] at this ⊢; omega
            case rel =>
              have hb := HBB.out
              have hle := HLE.out
              simp only [List.length_cons] at hb hle
              exact ⟨f, q4, N ++ [x.s], _, _, _, psL ++ [(tt, .slice au tt.kids.length cu)], ps', rfl, HRE, Lib.hid (by have h := HPT.out; simp only [parsT, HTX.out] at h; rw [← h]; simp), Lib.hid (by have h := HNN.out; simp only [List.map_cons] at h; rw [← h]; simp), HA7, by simpa using HM7, Lib.hid ⟨by simp only [List.length_append, List.length_cons, List.length_nil]; omega, by simp only [List.length_append, List.length_cons, List.length_nil]; omega, fun y hy => by
                rcases List.mem_append.1 hy with hy | hy
                · exact hb.2.2.1 y hy
                · rw [List.mem_singleton.1 hy]; exact hb.2.2.2 x (by simp), fun y hy => hb.2.2.2 y (by have := hle.2 y (List.mem_cons_of_mem _ hy); simp [this])⟩⟩
        · have hk1 : ((t.k : Int) == 1) = false := by simp; omega
          obtain ⟨rfl, hq⟩ := parsL_stop hk HPQ.out
          obtain ⟨rfl, rfl⟩ := List.cons.inj hq
          have hps : psL.map (·.1) = parsT i j [] pl.pars := by have h := HPT.out; simpa [parsT] using h
          have hN : N = pl.pars.map (·.1) := by have h := HNN.out; simpa using h
          subst hN
          have HPSL := Lib.hid hps
          obtain ⟨ap, np, cp, rfl⟩ : ∃ ap np cp, psv = .slice ap np cp := by obtain ⟨ap, cp, e, -⟩ := (made_lies HMD.out).out; exact ⟨ap, _, cp, e⟩
          clear hq hk HPQ HPT HNN hps
          go_wp2_with fail
          refine (ltake_any c _ _ _ _ _ _ HAS.out.a.st).mono ?_
          rintro e w13 ⟨rfl, ⟨tl13, hs, -⟩, hg⟩
          have HN1 := Lib.hid (made_kt HMD.out (kt_line HAS.out.a.st hg))
          have HB1 := Lib.hid (HAS.out.gr hs hg)
          clear hs hg
          unfold agT
          clear HAS HMD x0 d1 hk1
          have HTE := Lib.hid (HCT.out nS _ _ _ _ _ _ _ _ HB1.out HTY.out (by have := HBB.out.1; simp only [List.length_cons] at this; omega) HBB.out.2.2.1)
          go_wp2_with fail
          refine HTE.out.mono ?_
          rintro e w14 ⟨sv, tl14, rfl, hlp, hfi, hs14, -, hg14⟩
          rw [HCI.out.1, HCI.out.2] at hlp hfi
          rw [HCI.out.1, HCI.out.2]
          obtain ⟨ty, hty⟩ : ∃ ty, typeT pl i j = ty := ⟨_, rfl⟩
          rw [show outT (readB pl.type (pl.pars.map (·.1)) i j) = ty from hty] at hlp hfi
          rw [show outT (readB pl.type (pl.pars.map (·.1)) i j) = ty from hty]
          have HTYE := Lib.hid hty
          have HB2 := Lib.hid (HB1.out.gr hs14 hg14)
          have HN2 := Lib.hid (made_kt HN1.out (kt_line HB1.out.a.st hg14))
          have HLT := Lib.hid (hlp.from (B' := w.heap.size) (Nat.le_of_lt (hltD HB1.out.a.res)))
          have HFT := Lib.hid hfi
          obtain ⟨au, cu, rfl, -, -⟩ := hlp.out
          have hsy := HB2.out.sym
          unfold symV at hsy
          obtain ⟨⟨p0, p1, p2, p3, p4, p5, p6, p7, p8, p9, p10, p11, p12⟩, ⟨e0, e1, e2, e3, e4, e5, e6, e7, e8, e9, e10, e11, e12⟩⟩ := cells13 hsy
          clear hlp hfi hs14 hg14 hty hsy HTE HB1 HN1 p0 p1 p7 p8 p9 p10 p11 p12 e0 e1 e7 e8 e9 e10 e11 e12
          unfold tv
          have hs5 := HB2.out.set5 2 3 4 5 6 (.int .i64 ty.k) (.int .i64 ty.i) (.int .i64 ty.j) (.int .i64 ty.n) (.slice au ty.kids.length cu)
          have HB3 := Lib.hid (show AS w c nS (symV pl.name (.slice ap np cp) (.slice au ty.kids.length cu) (.slice none 0 0) ty Tm.zero pl.defn) _ _ _ _ _ from hs5.1)
          have HN3 := Lib.hid (made_kt HN2.out hs5.2)
          have HLT3 := Lib.hid (lies_kt HLT.out hs5.2)
          clear hs5 HN2 HLT
          go_upto_region 19 with fail
          obtain ⟨V, hV⟩ : ∃ V, V = ((((w14.setCell ⟨nS, 2, none⟩ (.int .i64 ty.k)).setCell ⟨nS, 3, none⟩ (.int .i64 ty.i)).setCell ⟨nS, 4, none⟩ (.int .i64 ty.j)).setCell ⟨nS, 5, none⟩ (.int .i64 ty.n)).setCell ⟨nS, 6, none⟩ (.slice au ty.kids.length cu) := ⟨_, rfl⟩
          rw [← hV] at HB3 HN3 HLT3
          rw [← hV]
          clear hV p2 p3 p4 p5 p6 e2 e3 e4 e5 e6 HB2
          have y12 : V.cell? ⟨nS, 12, none⟩ = some (.bool pl.defn) := by
            have h := HB3.out.sym
            unfold symV at h
            exact (cells13 h).1.2.2.2.2.2.2.2.2.2.2.2.2
          obtain ⟨dd, hdd⟩ : ∃ dd, pl.defn = dd := ⟨_, rfl⟩
          rw [hdd] at HB3 y12
          (try rw [hdd])
          have HDD := Lib.hid hdd
          rcases dd with _ | _
          · have HBO := Lib.hid (show bodyT pl i j = Tm.zero from by unfold bodyT; rw [HNB.out HDD.out])
            clear hdd
            go_upto_region 21 with fail
            have hsy := HB3.out.sym
            have hrs := HB3.out.a.res
            unfold symV at hsy hrs
            have HSYR := Lib.hid hsy
            obtain ⟨⟨p0, p1, p2, p3, p4, p5, p6, p7, p8, p9, p10, p11, p12⟩, -⟩ := cells13 hsy
            obtain ⟨⟨z0, z1, z2, z3, z4, z5, z6, z7, z8, z9, z10, z11, z12⟩, ⟨e0, e1, e2, e3, e4, e5, e6, e7, e8, e9, e10, e11, e12⟩⟩ := cells13 hrs
            have HRS := Lib.hid hrs
            clear hsy hrs
            have HKT := Lib.hid (set13_kt (T := 26) HRS.out (by decide) (.string ⟨pl.name.toArray⟩) (.slice ap np cp) (.int .i64 ty.k) (.int .i64 ty.i) (.int .i64 ty.j) (.int .i64 ty.n) (.slice au ty.kids.length cu) (.int .i64 Tm.zero.k) (.int .i64 Tm.zero.i) (.int .i64 Tm.zero.j) (.int .i64 Tm.zero.n) (.slice none 0 0) (.bool false))
            have HBL := Lib.hid (set13_below HB3.out.a.bel (Nat.le_refl _) (.string ⟨pl.name.toArray⟩) (.slice ap np cp) (.int .i64 ty.k) (.int .i64 ty.i) (.int .i64 ty.j) (.int .i64 ty.n) (.slice au ty.kids.length cu) (.int .i64 Tm.zero.k) (.int .i64 Tm.zero.i) (.int .i64 Tm.zero.j) (.int .i64 Tm.zero.n) (.slice none 0 0) (.bool false))
            have hst := set13_heap HRS.out (.string ⟨pl.name.toArray⟩) (.slice ap np cp) (.int .i64 ty.k) (.int .i64 ty.i) (.int .i64 ty.j) (.int .i64 ty.n) (.slice au ty.kids.length cu) (.int .i64 Tm.zero.k) (.int .i64 Tm.zero.i) (.int .i64 Tm.zero.j) (.int .i64 Tm.zero.n) (.slice none 0 0) (.bool false)
            have hml := made_lies HN3.out
            rw [HPSL.out] at hml
            have HML := Lib.hid (hml.from (B' := w.heap.size) (Nat.le_succ _))
            have HST := Lib.hid hst
            clear hst hml
            go_wp2_with (refine stop_ld 34 (.tmp 13) rfl ?_)
            intro _
            refine wpList_load_row rfl 34 (.tmp 13) rfl nS rfl 34 _ (0, 0) du HSYR.out hu1 (by cases du <;> first | rfl | exact hu2) size_sym ?_
            go_wp2
            (try simp only [Exit.inBlock, Exit.then])
            refine bodyPost_ret (results_cell_tmp rfl _ _ w.heap.size _ _ _ du rfl HST.out hu1 (by cases du <;> first | rfl | exact hu2) size_sym) rfl ?_
            exact ⟨.slice ap np cp, .slice au ty.kids.length cu, .slice none 0 0, by rw [HTYE.out, HBO.out, HDD.out]; rfl, lies_kt HML.out HKT.out, by rw [HTYE.out]; exact lies_kt HLT3.out HKT.out, by rw [HBO.out]; exact liesP_nil _ _, by rw [HTYE.out]; exact HFT.out, by rw [HBO.out]; exact zero_fine, HBL.out⟩
          · obtain ⟨b, r5, hpb, hbe⟩ := HBD.out hdd
            have HPL := Lib.hid (pieceL_len HTY.out)
            have HTB := Lib.hid (HCT.out nS _ _ _ _ _ _ _ _ HB3.out hpb (by have h1 := HBB.out.1; have h2 := HPL.out.1; simp only [List.length_cons] at h1; omega) HBB.out.2.2.1)
            clear hdd hpb
            go_wp2_with fail
            refine HTB.out.mono ?_
            rintro e w16 ⟨sv, tl16, rfl, hlp, hfi, hs16, -, hg16⟩
            rw [HCI.out.1, HCI.out.2] at hlp hfi
            rw [HCI.out.1, HCI.out.2]
            have hbo : bodyT pl i j = outT (readB b (pl.pars.map (·.1)) i j) := by unfold bodyT; rw [hbe]
            obtain ⟨bo, hbo2⟩ : ∃ bo, outT (readB b (pl.pars.map (·.1)) i j) = bo := ⟨_, rfl⟩
            rw [hbo2] at hlp hfi hbo
            rw [hbo2]
            have HBO := Lib.hid hbo
            have hkl := kt_line HB3.out.a.st hg16
            have HB5 := Lib.hid (HB3.out.gr hs16 hg16)
            have HN5 := Lib.hid (made_kt HN3.out hkl)
            have HLT5 := Lib.hid (lies_kt HLT3.out hkl)
            have HLB := Lib.hid (hlp.from (B' := w.heap.size) (Nat.le_of_lt (hltD HB3.out.a.res)))
            have HFB := Lib.hid hfi
            obtain ⟨ab, cb, rfl, -, -⟩ := hlp.out
            have hsy := HB5.out.sym
            unfold symV at hsy
            obtain ⟨⟨p0, p1, p2, p3, p4, p5, p6, p7, p8, p9, p10, p11, p12⟩, ⟨e0, e1, e2, e3, e4, e5, e6, e7, e8, e9, e10, e11, e12⟩⟩ := cells13 hsy
            clear hlp hfi hs16 hg16 hbo hbo2 hbe hsy hkl HTB p0 p1 p2 p3 p4 p5 p6 p12 e0 e1 e2 e3 e4 e5 e6 e12 y12
            unfold tv
            have hs5 := HB5.out.set5 7 8 9 10 11 (.int .i64 bo.k) (.int .i64 bo.i) (.int .i64 bo.j) (.int .i64 bo.n) (.slice ab bo.kids.length cb)
            have HB6 := Lib.hid (show AS w c nS (symV pl.name (.slice ap np cp) (.slice au ty.kids.length cu) (.slice ab bo.kids.length cb) ty bo true) _ _ _ _ _ from hs5.1)
            have HN6 := Lib.hid (made_kt HN5.out hs5.2)
            have HLT6 := Lib.hid (lies_kt HLT5.out hs5.2)
            have HLB6 := Lib.hid (lies_kt HLB.out hs5.2)
            clear hs5 HN5 HLT5 HLB HB3 HN3 HLT3
            go_upto_region 21 with fail
            obtain ⟨U, hU⟩ : ∃ U, U = ((((w16.setCell ⟨nS, 7, none⟩ (.int .i64 bo.k)).setCell ⟨nS, 8, none⟩ (.int .i64 bo.i)).setCell ⟨nS, 9, none⟩ (.int .i64 bo.j)).setCell ⟨nS, 10, none⟩ (.int .i64 bo.n)).setCell ⟨nS, 11, none⟩ (.slice ab bo.kids.length cb) := ⟨_, rfl⟩
            rw [← hU] at HB6 HN6 HLT6 HLB6
            rw [← hU]
            clear hU p7 p8 p9 p10 p11 e7 e8 e9 e10 e11 HB5
            have hsy := HB6.out.sym
            have hrs := HB6.out.a.res
            unfold symV at hsy hrs
            have HSYR := Lib.hid hsy
            obtain ⟨⟨p0, p1, p2, p3, p4, p5, p6, p7, p8, p9, p10, p11, p12⟩, -⟩ := cells13 hsy
            obtain ⟨⟨z0, z1, z2, z3, z4, z5, z6, z7, z8, z9, z10, z11, z12⟩, ⟨e0, e1, e2, e3, e4, e5, e6, e7, e8, e9, e10, e11, e12⟩⟩ := cells13 hrs
            have HRS := Lib.hid hrs
            clear hsy hrs
            have HKT := Lib.hid (set13_kt (T := 26) HRS.out (by decide) (.string ⟨pl.name.toArray⟩) (.slice ap np cp) (.int .i64 ty.k) (.int .i64 ty.i) (.int .i64 ty.j) (.int .i64 ty.n) (.slice au ty.kids.length cu) (.int .i64 bo.k) (.int .i64 bo.i) (.int .i64 bo.j) (.int .i64 bo.n) (.slice ab bo.kids.length cb) (.bool true))
            have HBL := Lib.hid (set13_below HB6.out.a.bel (Nat.le_refl _) (.string ⟨pl.name.toArray⟩) (.slice ap np cp) (.int .i64 ty.k) (.int .i64 ty.i) (.int .i64 ty.j) (.int .i64 ty.n) (.slice au ty.kids.length cu) (.int .i64 bo.k) (.int .i64 bo.i) (.int .i64 bo.j) (.int .i64 bo.n) (.slice ab bo.kids.length cb) (.bool true))
            have hst := set13_heap HRS.out (.string ⟨pl.name.toArray⟩) (.slice ap np cp) (.int .i64 ty.k) (.int .i64 ty.i) (.int .i64 ty.j) (.int .i64 ty.n) (.slice au ty.kids.length cu) (.int .i64 bo.k) (.int .i64 bo.i) (.int .i64 bo.j) (.int .i64 bo.n) (.slice ab bo.kids.length cb) (.bool true)
            have hml := made_lies HN6.out
            rw [HPSL.out] at hml
            have HML := Lib.hid (hml.from (B' := w.heap.size) (Nat.le_succ _))
            have HST := Lib.hid hst
            clear hst hml
            go_wp2_with (refine stop_ld 34 (.tmp 13) rfl ?_)
            intro _
            refine wpList_load_row rfl 34 (.tmp 13) rfl nS rfl 34 _ (0, 0) du HSYR.out hu1 (by cases du <;> first | rfl | exact hu2) size_sym ?_
            go_wp2
            (try simp only [Exit.inBlock, Exit.then])
            refine bodyPost_ret (results_cell_tmp rfl _ _ w.heap.size _ _ _ du rfl HST.out hu1 (by cases du <;> first | rfl | exact hu2) size_sym) rfl ?_
            exact ⟨.slice ap np cp, .slice au ty.kids.length cu, .slice ab bo.kids.length cb, by rw [HTYE.out, HBO.out, HDD.out]; rfl, lies_kt HML.out HKT.out, by rw [HTYE.out]; exact lies_kt HLT6.out HKT.out, by rw [HBO.out]; exact lies_kt HLB6.out HKT.out, by rw [HTYE.out]; exact HFT.out, by rw [HBO.out]; exact HFB.out, HBL.out⟩
end Go.Proofs.YtpekceadjcbphaaDoor.Sg

namespace Go.Proofs.YtpekceadjcbphaaDoor.Sg
open Go.RowKit
open Rt (below_gr below_of)

/-- A list of terms lies behind a slice of its own. -/
theorem liesP_slice {w : World} {P : Nat → Prop} {l : List Tm} {v : Value} (h : LiesP w P l v) : ∃ a n c, v = .slice a n c ∧ n = l.length := by
  obtain ⟨a, c, e, -, -⟩ := h.out
  exact ⟨a, _, c, e, rfl⟩
theorem plan6 : ∃ ts pl, lexL lib6 0 = (ts, none) ∧ planL lib6 ts = some pl ∧ planOk pl = true ∧ pl.name = [104, 101, 116] ∧ pl.defn = true ∧ pl.pars.length = 4 ∧ (typeT pl 2 0).k = 1 ∧ (typeT pl 2 0).i = 3 := by
  obtain ⟨ts, pl, h1, h2, h3⟩ := lib_plan (lib_ok lib6 (by simp [libL]))
  have h4 : (lexF (lib6.length + 1) lib6 0).1 = ts := by rw [← lexL_F, h1]
  exact ⟨ts, pl, h1, h2, h3, wk17_plan (by rw [h4]; exact h2)⟩
set_option maxHeartbeats 2000000 in
set_option maxRecDepth 20000 in
theorem wakes17_any {B : Nat} (w : World) (hT : TabsR B w) (hB : B ≤ w.heap.size) : Calls Tryd.prog 15 #[] w fun e w' => e = .returned (.bool true) ∧ Below w.heap.size w w' := by
  obtain ⟨ts, pl, h1, h2, -, h4, h5, h6, h7, h8⟩ := plan6
  have HAT := Lib.hid (at_some 5 6 2 0 w (l := lib6) (pl := pl) rfl (by decide) (by decide) (by decide) hT hB h1 h2)
  have HNM := Lib.hid h4
  have HDF := Lib.hid h5
  have HLN := Lib.hid h6
  have hk1 : ((typeT pl 2 0).k == 1) = true := by rw [h7]; rfl
  have hi1 : ((typeT pl 2 0).i == 3) = true := by rw [h8]; rfl
  clear h1 h2 h4 h5 h6 h7 h8 hT
  go_enter Tryd.func15, Tryd.ntmps15
  go_wp2_with fail
  refine HAT.out.mono ?_
  rintro e w1 ⟨ps, tsv, bsv, rfl, hps, hts, hbs, -, -, hb1⟩
  obtain ⟨ap, np, cp, rfl, hnp⟩ := liesP_slice hps
  obtain ⟨au, nu, cu, rfl, -⟩ := liesP_slice hts
  obtain ⟨ab, nb, cb, rfl, -⟩ := liesP_slice hbs
  rw [parsT_length, HLN.out] at hnp
  subst hnp
  have hsy : (w1.alloc (.cells (symV pl.name (.slice ap 4 cp) (.slice au nu cu) (.slice ab nb cb) (typeT pl 2 0) (bodyT pl 2 0) pl.defn) 34)).heap[w1.heap.size]? = some _ := alloc_new _ _
  have hb2 := hb1.alloc hb1.size (.cells (symV pl.name (.slice ap 4 cp) (.slice au nu cu) (.slice ab nb cb) (typeT pl 2 0) (bodyT pl 2 0) pl.defn) 34)
  have HB2 := Lib.hid hb2
  have HSY := Lib.hid hsy
  clear hps hts hbs hb1 hb2 hsy HAT
  unfold symV
  go_wp2_with fail
  rw [HNM.out, HDF.out] at HSY HB2
  rw [HNM.out, HDF.out]
  refine (at_none 22 0 0 _ (Or.inr (Or.inl (by decide)))).mono ?_
  rintro e w3 ⟨rfl, hb3⟩
  have hsy := (hb3.block _ (Array.getElem?_eq_some_iff.1 HSY.out).1).trans HSY.out
  have HB3 := Lib.hid (HB2.out.trans (hb3.mono HB2.out.size))
  have HB4 := Lib.hid (HB3.out.alloc HB3.out.size (.cells (symV [] (.slice none 0 0) (.slice none 0 0) (.slice none 0 0) Tm.zero Tm.zero false) 34))
  have hs4 := (Below.heap_alloc w3 (.cells (symV [] (.slice none 0 0) (.slice none 0 0) (.slice none 0 0) Tm.zero Tm.zero false) 34) _ (Array.getElem?_eq_some_iff.1 hsy).1).trans hsy
  have hlt : w1.heap.size < w3.heap.size := (Array.getElem?_eq_some_iff.1 hsy).1
  unfold symV at hsy hs4
  obtain ⟨⟨p0, p1, p2, p3, -, -, -, -, -, -, -, -, p12⟩, -⟩ := cells13 hsy
  obtain ⟨⟨q0, q1, q2, q3, -, -, -, -, -, -, -, -, q12⟩, -⟩ := cells13 hs4
  unfold noSym symV
  clear hsy hs4 hb3
  go_wp2
  go_ret
  exact ⟨rfl, HB4.out⟩
end Go.Proofs.YtpekceadjcbphaaDoor.Sg

namespace Go.Proofs.YtpekceadjcbphaaDoor.Sg
open Go.RowKit
open Rt (below_gr below_of)

theorem lib_pieces {l : List UInt8} {q r : List Tok} {p : List UInt8} (h : pieceL l q = some (p, r)) : p.length ≤ l.length := by
  cases q with
  | nil => cases h
  | cons t q =>
    obtain ⟨la, -, rfl, -, -⟩ := pieceL_some h
    simp only [List.length_drop, List.length_take]
    omega
theorem pars_pieces {l : List UInt8} : ∀ (f : Nat) (q r : List Tok) (ps : List (List UInt8 × List UInt8)), parsL l f q = some (ps, r) → ps.length ≤ f ∧ ∀ p ∈ ps, p.2.length ≤ l.length
  | 0, q, r, ps, h => by cases q <;> cases h
  | f + 1, [], r, ps, h => by cases h
  | f + 1, t :: q, r, ps, h => by
    by_cases hk : t.k = 1
    · obtain ⟨x, q1, p, cl, q4, ps', rfl, hpc, hrest, rfl⟩ := parsL_go hk h
      obtain ⟨h1, h2⟩ := pars_pieces f _ _ _ hrest
      refine ⟨by simp; omega, fun y hy => ?_⟩
      rcases List.mem_cons.1 hy with rfl | hy
      · exact lib_pieces hpc
      · exact h2 y hy
    · obtain ⟨rfl, -⟩ := parsL_stop hk h
      exact ⟨Nat.zero_le _, fun y hy => (by cases hy)⟩
theorem plan_small {l : List UInt8} {ts : List Tok} {pl : Plan} (h : planL l ts = some pl) : pl.pars.length ≤ 30 ∧ (∀ p ∈ pl.pars, p.2.length ≤ l.length) ∧ pl.type.length ≤ l.length ∧ ∀ b, pl.body = some b → b.length ≤ l.length := by
  obtain ⟨t0, t1, t2, t3, r, te, r2, r3, rfl, hps, hty, -, -, hbd, hnb⟩ := planL_some h
  obtain ⟨h1, h2⟩ := pars_pieces _ _ _ _ hps
  refine ⟨h1, h2, lib_pieces hty, fun b hb => ?_⟩
  cases hd : pl.defn with
  | false => rw [hnb hd] at hb; cases hb
  | true =>
    obtain ⟨b', r5, hp, hb'⟩ := hbd hd
    rw [hb'] at hb
    cases hb
    exact lib_pieces hp
/-- A symbol of the library: its line, its plan and what they say. -/
theorem sym_plan {m : Int} (h1 : ¬ m < 1) (h2 : ¬ 21 < m) : ∃ (n : Nat) (l : List UInt8) (ts : List Tok) (pl : Plan), m = (n : Int) + 1 ∧ libL[n]? = some l ∧ lexL l 0 = (ts, none) ∧ planL l ts = some pl ∧ planOk pl = true ∧ kidsN 23 m = (pl.pars.length : Int) ∧ nameB m = pl.name ∧ pl.defn = decide (2 < m) ∧ pl.body.isSome = decide (2 < n + 1) ∧ l.length ≤ 2000 := by
  obtain ⟨n, rfl⟩ : ∃ n : Nat, m = (n : Int) + 1 := ⟨(m - 1).toNat, by omega⟩
  have hn : n < 21 := by omega
  have e21 : libL.length = 21 := rfl
  obtain ⟨l, hl⟩ : ∃ l, libL[n]? = some l := ⟨_, List.getElem?_eq_getElem (by omega)⟩
  have hmem := List.mem_of_getElem? hl
  obtain ⟨ts, pl, h3, h4, h5⟩ := lib_plan (lib_ok l hmem)
  have h6 : (lexF (l.length + 1) l 0).1 = ts := by rw [← lexL_F, h3]
  obtain ⟨h7, h8, h9, h10⟩ := line_says (line_ok n l hl) (by rw [h6]; exact h4)
  refine ⟨n, l, ts, pl, rfl, hl, h3, h4, h5, ?_, ?_, ?_, h10, lib_len l hmem⟩
  · rw [h7]; rfl
  · rw [h8]; rfl
  · rw [h9]; exact decide_eq_decide.2 (by omega)
end Go.Proofs.YtpekceadjcbphaaDoor.Sg

namespace Go.Proofs.YtpekceadjcbphaaDoor.Sg
open Go.RowKit Go.Maps Go.ChangeShapes
open Rt (PR RS NR Fw strV below_gr below_of cell_gr)
open Dv (hltD typeD XS)

theorem under_rsym : ∃ d, Tryd.prog.underlying 37 = some d ∧ (match d with | .struct _ | .array _ _ => true | _ => false) = true := by
  refine ⟨(Tryd.prog.underlying 37).get (by kernel_rfl), ?_, by kernel_rfl⟩
  exact (Option.some_get _).symm
theorem size_rsym : (Tryd.prog.info? 37).map (·.size) = some 13 := by kernel_rfl
set_option maxHeartbeats 4000000 in
set_option maxRecDepth 20000 in
theorem pat_none (n i j : Int) (w : World) (h : n < 1 ∨ 21 < n ∨ i < 0 ∨ 1000 ≤ i ∨ j < 0 ∨ 1000 ≤ j) : Calls Tryd.prog 13 #[.int .i64 n, .int .i64 i, .int .i64 j] w fun e w' => e = .returned (.tuple #[noSym, .bool false]) ∧ Below w.heap.size w w' := by
  obtain ⟨du, hu1, hu2⟩ := under_rsym
  have HB := Lib.hid ((Below.refl w.heap.size w).alloc (Nat.le_refl _) (.cells zSymA 37))
  have HZ := Lib.hid (show (w.alloc (.cells zSymA 37)).heap[w.heap.size]? = some _ from alloc_new _ _)
  by_cases c0 : n < 1
  · clear h
    go_enter Tryd.func13, Tryd.ntmps13
    go_wp2_with fail
    refine (lib_any _).mono ?_
    rintro e w1 ⟨g, rfl, -, hg1⟩
    have hr := (hg1.block _ (hltD HZ.out) (by simp)).trans HZ.out
    have HBX := Lib.hid (HB.out.trans ((below_of hg1).mono HB.out.size))
    have HR := Lib.hid hr
    obtain ⟨⟨z0, z1, z2, z3, z4, z5, z6, z7, z8, z9, z10, z11, z12⟩, ⟨e0, e1, e2, e3, e4, e5, e6, e7, e8, e9, e10, e11, e12⟩⟩ := cells13 hr
    have HST := Lib.hid (set13_heap HR.out (.string ⟨#[]⟩) (.slice none 0 0) (.int .i64 0) (.int .i64 0) (.int .i64 0) (.int .i64 0) (.slice none 0 0) (.int .i64 0) (.int .i64 0) (.int .i64 0) (.int .i64 0) (.slice none 0 0) (.bool false))
    have HBE := Lib.hid (set13_below HBX.out (Nat.le_refl _) (.string ⟨#[]⟩) (.slice none 0 0) (.int .i64 0) (.int .i64 0) (.int .i64 0) (.int .i64 0) (.slice none 0 0) (.int .i64 0) (.int .i64 0) (.int .i64 0) (.int .i64 0) (.slice none 0 0) (.bool false))
    clear hr hg1
    go_wp2
    refine bodyPost_ret (results_cell_tmp rfl _ _ w.heap.size _ _ _ du rfl HST.out hu1 (by cases du <;> first | rfl | exact hu2) size_rsym) rfl ?_
    exact ⟨rfl, HBE.out⟩
  by_cases c1 : 21 < n
  · clear h
    go_enter Tryd.func13, Tryd.ntmps13
    go_wp2_with fail
    refine (lib_any _).mono ?_
    rintro e w1 ⟨g, rfl, -, hg1⟩
    have hr := (hg1.block _ (hltD HZ.out) (by simp)).trans HZ.out
    have HBX := Lib.hid (HB.out.trans ((below_of hg1).mono HB.out.size))
    have HR := Lib.hid hr
    obtain ⟨⟨z0, z1, z2, z3, z4, z5, z6, z7, z8, z9, z10, z11, z12⟩, ⟨e0, e1, e2, e3, e4, e5, e6, e7, e8, e9, e10, e11, e12⟩⟩ := cells13 hr
    have HST := Lib.hid (set13_heap HR.out (.string ⟨#[]⟩) (.slice none 0 0) (.int .i64 0) (.int .i64 0) (.int .i64 0) (.int .i64 0) (.slice none 0 0) (.int .i64 0) (.int .i64 0) (.int .i64 0) (.int .i64 0) (.slice none 0 0) (.bool false))
    have HBE := Lib.hid (set13_below HBX.out (Nat.le_refl _) (.string ⟨#[]⟩) (.slice none 0 0) (.int .i64 0) (.int .i64 0) (.int .i64 0) (.int .i64 0) (.slice none 0 0) (.int .i64 0) (.int .i64 0) (.int .i64 0) (.int .i64 0) (.slice none 0 0) (.bool false))
    clear hr hg1
    go_wp2
    refine bodyPost_ret (results_cell_tmp rfl _ _ w.heap.size _ _ _ du rfl HST.out hu1 (by cases du <;> first | rfl | exact hu2) size_rsym) rfl ?_
    exact ⟨rfl, HBE.out⟩
  by_cases c2 : i < 0
  · clear h
    go_enter Tryd.func13, Tryd.ntmps13
    go_wp2_with fail
    refine (lib_any _).mono ?_
    rintro e w1 ⟨g, rfl, -, hg1⟩
    have hr := (hg1.block _ (hltD HZ.out) (by simp)).trans HZ.out
    have HBX := Lib.hid (HB.out.trans ((below_of hg1).mono HB.out.size))
    have HR := Lib.hid hr
    obtain ⟨⟨z0, z1, z2, z3, z4, z5, z6, z7, z8, z9, z10, z11, z12⟩, ⟨e0, e1, e2, e3, e4, e5, e6, e7, e8, e9, e10, e11, e12⟩⟩ := cells13 hr
    have HST := Lib.hid (set13_heap HR.out (.string ⟨#[]⟩) (.slice none 0 0) (.int .i64 0) (.int .i64 0) (.int .i64 0) (.int .i64 0) (.slice none 0 0) (.int .i64 0) (.int .i64 0) (.int .i64 0) (.int .i64 0) (.slice none 0 0) (.bool false))
    have HBE := Lib.hid (set13_below HBX.out (Nat.le_refl _) (.string ⟨#[]⟩) (.slice none 0 0) (.int .i64 0) (.int .i64 0) (.int .i64 0) (.int .i64 0) (.slice none 0 0) (.int .i64 0) (.int .i64 0) (.int .i64 0) (.int .i64 0) (.slice none 0 0) (.bool false))
    clear hr hg1
    go_wp2
    refine bodyPost_ret (results_cell_tmp rfl _ _ w.heap.size _ _ _ du rfl HST.out hu1 (by cases du <;> first | rfl | exact hu2) size_rsym) rfl ?_
    exact ⟨rfl, HBE.out⟩
  by_cases c3 : 1000 ≤ i
  · clear h
    go_enter Tryd.func13, Tryd.ntmps13
    go_wp2_with fail
    refine (lib_any _).mono ?_
    rintro e w1 ⟨g, rfl, -, hg1⟩
    have hr := (hg1.block _ (hltD HZ.out) (by simp)).trans HZ.out
    have HBX := Lib.hid (HB.out.trans ((below_of hg1).mono HB.out.size))
    have HR := Lib.hid hr
    obtain ⟨⟨z0, z1, z2, z3, z4, z5, z6, z7, z8, z9, z10, z11, z12⟩, ⟨e0, e1, e2, e3, e4, e5, e6, e7, e8, e9, e10, e11, e12⟩⟩ := cells13 hr
    have HST := Lib.hid (set13_heap HR.out (.string ⟨#[]⟩) (.slice none 0 0) (.int .i64 0) (.int .i64 0) (.int .i64 0) (.int .i64 0) (.slice none 0 0) (.int .i64 0) (.int .i64 0) (.int .i64 0) (.int .i64 0) (.slice none 0 0) (.bool false))
    have HBE := Lib.hid (set13_below HBX.out (Nat.le_refl _) (.string ⟨#[]⟩) (.slice none 0 0) (.int .i64 0) (.int .i64 0) (.int .i64 0) (.int .i64 0) (.slice none 0 0) (.int .i64 0) (.int .i64 0) (.int .i64 0) (.int .i64 0) (.slice none 0 0) (.bool false))
    clear hr hg1
    go_wp2
    refine bodyPost_ret (results_cell_tmp rfl _ _ w.heap.size _ _ _ du rfl HST.out hu1 (by cases du <;> first | rfl | exact hu2) size_rsym) rfl ?_
    exact ⟨rfl, HBE.out⟩
  by_cases c4 : j < 0
  · clear h
    go_enter Tryd.func13, Tryd.ntmps13
    go_wp2_with fail
    refine (lib_any _).mono ?_
    rintro e w1 ⟨g, rfl, -, hg1⟩
    have hr := (hg1.block _ (hltD HZ.out) (by simp)).trans HZ.out
    have HBX := Lib.hid (HB.out.trans ((below_of hg1).mono HB.out.size))
    have HR := Lib.hid hr
    obtain ⟨⟨z0, z1, z2, z3, z4, z5, z6, z7, z8, z9, z10, z11, z12⟩, ⟨e0, e1, e2, e3, e4, e5, e6, e7, e8, e9, e10, e11, e12⟩⟩ := cells13 hr
    have HST := Lib.hid (set13_heap HR.out (.string ⟨#[]⟩) (.slice none 0 0) (.int .i64 0) (.int .i64 0) (.int .i64 0) (.int .i64 0) (.slice none 0 0) (.int .i64 0) (.int .i64 0) (.int .i64 0) (.int .i64 0) (.slice none 0 0) (.bool false))
    have HBE := Lib.hid (set13_below HBX.out (Nat.le_refl _) (.string ⟨#[]⟩) (.slice none 0 0) (.int .i64 0) (.int .i64 0) (.int .i64 0) (.int .i64 0) (.slice none 0 0) (.int .i64 0) (.int .i64 0) (.int .i64 0) (.int .i64 0) (.slice none 0 0) (.bool false))
    clear hr hg1
    go_wp2
    refine bodyPost_ret (results_cell_tmp rfl _ _ w.heap.size _ _ _ du rfl HST.out hu1 (by cases du <;> first | rfl | exact hu2) size_rsym) rfl ?_
    exact ⟨rfl, HBE.out⟩
  by_cases c5 : 1000 ≤ j
  · clear h
    go_enter Tryd.func13, Tryd.ntmps13
    go_wp2_with fail
    refine (lib_any _).mono ?_
    rintro e w1 ⟨g, rfl, -, hg1⟩
    have hr := (hg1.block _ (hltD HZ.out) (by simp)).trans HZ.out
    have HBX := Lib.hid (HB.out.trans ((below_of hg1).mono HB.out.size))
    have HR := Lib.hid hr
    obtain ⟨⟨z0, z1, z2, z3, z4, z5, z6, z7, z8, z9, z10, z11, z12⟩, ⟨e0, e1, e2, e3, e4, e5, e6, e7, e8, e9, e10, e11, e12⟩⟩ := cells13 hr
    have HST := Lib.hid (set13_heap HR.out (.string ⟨#[]⟩) (.slice none 0 0) (.int .i64 0) (.int .i64 0) (.int .i64 0) (.int .i64 0) (.slice none 0 0) (.int .i64 0) (.int .i64 0) (.int .i64 0) (.int .i64 0) (.slice none 0 0) (.bool false))
    have HBE := Lib.hid (set13_below HBX.out (Nat.le_refl _) (.string ⟨#[]⟩) (.slice none 0 0) (.int .i64 0) (.int .i64 0) (.int .i64 0) (.int .i64 0) (.slice none 0 0) (.int .i64 0) (.int .i64 0) (.int .i64 0) (.int .i64 0) (.slice none 0 0) (.bool false))
    clear hr hg1
    go_wp2
    refine bodyPost_ret (results_cell_tmp rfl _ _ w.heap.size _ _ _ du rfl HST.out hu1 (by cases du <;> first | rfl | exact hu2) size_rsym) rfl ?_
    exact ⟨rfl, HBE.out⟩
  omega
theorem stop_bi {P : Program} {ops : Array Oper} {rest : List Oper} {o : Oper} {a : Act} {w : World} {Q : Exit → Act → World → Prop} (h : True → wpList P ops Q (o :: rest) a w) : wpList P ops Q (o :: rest) a w := h trivial
theorem at_start {L : List Tok} : At L Dv.startX L := ⟨rfl, rfl, Nat.zero_le _⟩
set_option maxHeartbeats 8000000 in
set_option maxRecDepth 20000 in
theorem pat_some (n : Nat) (m i j : Int) (w : World) {l : List UInt8} {ts : List Tok} {pl : Plan} (hl : libL[n]? = some l) (hm : m = (n : Int) + 1) (hi : 0 ≤ i ∧ i ≤ 999) (hj : 0 ≤ j ∧ j ≤ 999) (hlex : lexL l 0 = (ts, none)) (hp : planL l ts = some pl) (hok : planOk pl = true) : Calls Tryd.prog 13 #[.int .i64 m, .int .i64 i, .int .i64 j] w (AtG pl i j w) := by
  obtain ⟨du, hu1, hu2⟩ := under_rsym
  have hlen := lib_len l (List.mem_of_getElem? hl)
  have hn21 : n < 21 := by
    have h := (List.getElem?_eq_some_iff.1 hl).1
    have e : libL.length = 21 := rfl
    omega
  obtain ⟨t0, t1, t2, t3, r, te, r2, r3, hts, ⟨k0, k1, k2, k3⟩, hps, hpk, hty, hlt, hnm, hdef, hbd, hnb⟩ := pageK_some hp (page_lib hl hlex)
  obtain ⟨hsm1, hsm2, hsm3, hsm4⟩ := plan_small hp
  obtain ⟨hg1, hg2, hg3⟩ := plan_good hok
  have hcnt := lexL_few hlex
  have htk := (lexL_bound (l := l) l.length 0 (by omega)).2.1
  have hne := Rt.lexL_ne (l := l) l.length 0 (by omega)
  rw [hlex] at htk hne
  have HTS := Lib.hid hts
  have HTK := Lib.hid (show (ts.length ≤ 2000 ∧ (∀ t ∈ ts, t.s.length ≤ 2000)) ∧ ∀ t ∈ ts, t.k = 3 → t.s ≠ [] from ⟨⟨by omega, fun t ht => by have := (htk t ht).1; omega⟩, fun t ht _ => hne t ht⟩)
  have HK := Lib.hid (And.intro k0 (And.intro k1 (And.intro k2 k3)))
  have HPS := Lib.hid hps
  have HPK := Lib.hid hpk
  have HTY := Lib.hid hty
  have HLK := Lib.hid hlt
  have HBD := Lib.hid hbd
  have HNB := Lib.hid hnb
  have HNM := Lib.hid hnm
  have HLX := Lib.hid hlex
  have HG := Lib.hid (And.intro hg1 (And.intro hg2 hg3))
  have HSM := Lib.hid (show pl.pars.length ≤ 30 ∧ (∀ p ∈ pl.pars, p.2.length ≤ 2000) ∧ pl.type.length ≤ 2000 ∧ ∀ b, pl.body = some b → b.length ≤ 2000 from ⟨hsm1, fun p hp => by have := hsm2 p hp; omega, by omega, fun b hb => by have := hsm4 b hb; omega⟩)
  have HLEN := Lib.hid hlen
  have HDB := Lib.hid (show (t1.s == [100, 101, 102]) = pl.defn by rw [hdef]; by_cases h : t1.s = [100, 101, 102] <;> simp [h])
  have HIJ := Lib.hid (And.intro hi hj)
  have c1 : ¬ m < 1 := by omega
  have c2 : ¬ 21 < m := by omega
  have c3 : ¬ i < 0 := by omega
  have c4 : ¬ 1000 ≤ i := by omega
  have c5 : ¬ j < 0 := by omega
  have c6 : ¬ 1000 ≤ j := by omega
  have hw1 : IntKind.i64.wrap (m - 1) = (n : Int) := by rw [IntWalk.i64_in _ (by omega)]; omega
  have HA := Lib.hid (below_gr ((Below.refl w.heap.size w).alloc (Nat.le_refl _) (.cells zSymA 37)))
  have HZ := Lib.hid (show (w.alloc (.cells zSymA 37)).heap[w.heap.size]? = some (.cells zSymA 37 (0, 0)) from alloc_new _ _)
  have HL := Lib.hid hl
  clear hl hlen hts k0 k1 k2 k3 hps hpk hty hlt hnm hdef hbd hnb hsm1 hsm2 hsm3 hsm4 hg1 hg2 hg3 hcnt htk hne hlex hp hok hi hj hm
  go_enter Tryd.func13, Tryd.ntmps13
  go_wp2_with fail
  refine (lib_any _).mono ?_
  rintro e w1 ⟨g, rfl, hrow, hg1⟩
  have hcl : w1.cell? ⟨g, n, none⟩ = some (.string ⟨l.toArray⟩) := by
    obtain ⟨h1, h2⟩ := List.getElem?_eq_some_iff.1 HL.out
    have := hrow n h1
    rw [h2] at this
    exact this
  have HG1 := Lib.hid (HA.out.trans hg1)
  have HR1 := Lib.hid ((hg1.block _ (hltD HZ.out) (by simp)).trans HZ.out)
  clear hrow hg1 HA HZ
  go_wp2_with fail
  refine (plex_any ⟨l.toArray⟩ _ (by simp [ByteArray.size]; have := HLEN.out; omega)).mono ?_
  intro e w2 hx
  unfold plexGives at hx
  rw [show (⟨l.toArray⟩ : ByteArray).data.toList = l from rfl, HLX.out] at hx
  obtain ⟨hb2, v, htk, rfl⟩ := hx
  have hpt := Rt.ptok_of htk
  obtain ⟨av, cv, rfl, -⟩ := id hpt
  dsimp only
  have hg2 := HG1.out.trans (below_gr hb2)
  have hr2 := (hb2.block _ (hltD HR1.out)).trans HR1.out
  obtain ⟨c, hcR, hcL, hcv, hci, hcj⟩ : ∃ c : PR, w2.heap.size = c.R ∧ c.L = ts ∧ c.v = .slice av ts.length cv ∧ c.i = i ∧ c.j = j := ⟨⟨w2.heap.size, ts, _, i, j⟩, rfl, rfl, rfl, rfl, rfl⟩
  have hbl := ((Below.refl w2.heap.size w2).alloc (Nat.le_refl _) (.cells #[.slice av ts.length cv, .int .i64 0, .int .i64 (-1), .int .i64 i, .int .i64 j, .slice none 0 0] 52))
  have hP0 : PS w c (.slice none 0 0) Dv.startX [] (w2.alloc (.cells #[.slice av ts.length cv, .int .i64 0, .int .i64 (-1), .int .i64 i, .int .i64 j, .slice none 0 0] 52)) := by
    refine ⟨(hbl.block _ (hltD hr2)).trans hr2, ⟨?_, ?_⟩, Or.inl ⟨rfl, rfl⟩, below_of (hg2.trans (below_gr hbl)), by have := hltD hr2; omega⟩
    · rw [← hcR, hcv, hci, hcj]
      exact alloc_new _ _
    · rw [hcL, hcv]
      exact hpt.keep fun g cs fz e => (hbl.block g (hltD e)).trans e
  have HP0 := Lib.hid hP0
  have HA0 := Lib.hid (show At c.L Dv.startX (t0 :: t1 :: t2 :: t3 :: r) from by rw [← HTS.out, hcL]; exact at_start)
  have HPL := Lib.hid (show PL c i j from ⟨by rw [hcL]; exact HTK.out.1.1, by rw [hcL]; exact HTK.out.1.2, by rw [hcL]; exact HTK.out.2, hci, hcj, HIJ.out.1, HIJ.out.2⟩)
  clear hP0 hbl hr2 hg2 htk hpt hb2 hcL hcv hci hcj hcl HG1 HR1 HL HLX HTK
  go_wp2_with fail
  obtain ⟨V, hV⟩ : ∃ V, V = w2.alloc (.cells #[.slice av ts.length cv, .int .i64 0, .int .i64 (-1), .int .i64 i, .int .i64 j, .slice none 0 0] 52) := ⟨_, rfl⟩
  rw [← hV] at HP0
  rw [← hV]
  clear hV hcR
  refine (HP0.out.want HA0.out HK.out.1 HPL.out.len).mono ?_
  rintro e w3 ⟨rfl, s_w3, hs, ha, hkt⟩
  have HP1 := Lib.hid hs
  have HA1 := Lib.hid ha
  clear hs ha hkt
  have hzb := (Below.refl w3.heap.size w3).alloc (Nat.le_refl _) (.cells zSymA 37)
  have HQ0 := Lib.hid (show PQ w c w3.heap.size zSymA (.slice none 0 0) _ [] (w3.alloc (.cells zSymA 37)) from ⟨HP1.out.same (below_gr hzb), alloc_new _ _, hltD HP1.out.res⟩)
  clear hzb HP0 HA0 HP1
  go_wp2_with fail
  obtain ⟨V, hV⟩ : ∃ V, V = w3.alloc (.cells zSymA 37) := ⟨_, rfl⟩
  rw [← hV] at HQ0
  have hV2 : V = w3.alloc (.cells #[.string ⟨#[]⟩, .slice none 0 0, .int .i64 0, .int .i64 0, .int .i64 0, .int .i64 0, .slice none 0 0, .int .i64 0, .int .i64 0, .int .i64 0, .int .i64 0, .slice none 0 0, .bool false] 37) := hV
  rw [← hV2]
  clear hV hV2
  obtain ⟨nS, hnS⟩ : ∃ nS, nS = w3.heap.size := ⟨_, rfl⟩
  rw [← hnS] at HQ0
  rw [← hnS]
  clear hnS
  refine (HQ0.out.want HA1.out HK.out.2.1 HPL.out.len).mono ?_
  rintro e w4 ⟨rfl, s_w4, hs, ha, hkt⟩
  have HQ1 := Lib.hid hs
  have HA2 := Lib.hid ha
  clear hs ha hkt
  have hsy := HQ1.out.sym
  obtain ⟨⟨-, -, -, -, -, -, -, -, -, -, -, -, p12⟩, ⟨-, -, -, -, -, -, -, -, -, -, -, -, e12⟩⟩ := cells13 hsy
  have hst := HQ1.out.set 12 (.bool pl.defn)
  have HQ2 := Lib.hid hst.1
  clear hsy hst HQ0 HA1
  go_wp2_with fail
  rw [HDB.out]
  obtain ⟨V2, hV⟩ : ∃ V2, V2 = w4.setCell ⟨nS, 12, none⟩ (.bool pl.defn) := ⟨_, rfl⟩
  rw [← hV] at HQ2
  rw [← hV]
  clear hV p12 e12 HQ1
  refine (HQ2.out.want HA2.out HK.out.2.2.1 HPL.out.len).mono ?_
  rintro e w5 ⟨rfl, s_w5, hs, ha, hkt⟩
  have HQ3 := Lib.hid hs
  have HA3 := Lib.hid ha
  clear hs ha hkt
  have hsy := HQ3.out.sym
  obtain ⟨⟨p0, -, -, -, -, -, -, -, -, -, -, -, -⟩, ⟨e0, -, -, -, -, -, -, -, -, -, -, -, -⟩⟩ := cells13 (z0 := .string ⟨#[]⟩) hsy
  have hst := HQ3.out.set 0 (.string ⟨t2.s.toArray⟩)
  have HQ4 := Lib.hid (show PQ w c nS (symV pl.name (.slice none 0 0) (.slice none 0 0) (.slice none 0 0) Tm.zero Tm.zero pl.defn) (.slice none 0 0) _ [] (w5.setCell ⟨nS, 0, none⟩ (.string ⟨t2.s.toArray⟩)) from by rw [HNM.out]; exact hst.1)
  clear hsy hst HQ2 HA2
  go_wp2_with fail
  obtain ⟨V3, hV⟩ : ∃ V3, V3 = w5.setCell ⟨nS, 0, none⟩ (.string ⟨t2.s.toArray⟩) := ⟨_, rfl⟩
  rw [← hV] at HQ4
  rw [← hV]
  clear hV p0 e0 HQ3
  refine (HQ4.out.want HA3.out HK.out.2.2.2 HPL.out.len).mono ?_
  rintro e w6 ⟨rfl, s_w6, hs, ha, hkt⟩
  have HQ5 := Lib.hid hs
  have HA4 := Lib.hid ha
  clear hs ha hkt
  clear HQ4 HA3
  go_wp2_with fail
  go_loopg [13] r.length (fun g psv wr => ∃ (f : Nat) (q : List Tok) (N : Names) (nv pv : Value) (s : XS) (psL : List (Tm × Value)) (rem : List (List UInt8 × List UInt8)), g = q.length ∧ pv = psv ∧ Hid (parsL l f q = some (rem, te :: r2) ∧ parsK l f q = true ∧ parsOk N rem = true) ∧ Hid (psL.map (·.1) ++ parsT i j N rem = parsT i j [] pl.pars) ∧ Hid (N ++ rem.map (·.1) = pl.pars.map (·.1)) ∧ Hid (PQ w c nS (symV pl.name (.slice none 0 0) (.slice none 0 0) (.slice none 0 0) Tm.zero Tm.zero pl.defn) nv s N.reverse wr) ∧ Hid (At c.L s q) ∧ Hid (Made (w.heap.size + 1) wr pv psL) ∧ Hid (psL.length + q.length ≤ 2000 ∧ N.length + q.length ≤ 2000 ∧ ∀ p ∈ rem, p.2.length ≤ 2000))
  case atStart => exact ⟨30, r, [], _, _, _, [], pl.pars, rfl, rfl, Lib.hid ⟨HPS.out, HPK.out, HG.out.1⟩, Lib.hid rfl, Lib.hid rfl, HQ5, HA4, Lib.hid (made_nil _ _), Lib.hid ⟨by have h1 := HPL.out.len; have h2 := HA4.out.len; simp; omega, by have h1 := HPL.out.len; have h2 := HA4.out.len; simp; omega, HSM.out.2.1⟩⟩
  case round =>
    clear HQ5 HA4 HPS HPK
    obtain ⟨f, q, N, nv, pv, s, psL, rem, rfl, rfl, HPQ, HPT, HNN, HQ, HAT, HMD, HBB⟩ := hrel
    cases f with
    | zero => exact absurd HPQ.out.1 (by simp [parsL])
    | succ f =>
      cases q with
      | nil => exact absurd HPQ.out.1 (by simp [parsL])
      | cons t q =>
        obtain ⟨d1, d2, d3⟩ := HQ.out.cells HAT.out
        go_wp2_with fail
        refine (HQ.out.kind HAT.out).mono ?_
        rintro e w7 ⟨rfl, hg7⟩
        have HQ7 := Lib.hid (HQ.out.same hg7)
        have HM7 := Lib.hid (made_kt HMD.out (kt_none hg7))
        clear hg7 d1 d2 d3 HQ HMD
        by_cases hk : t.k = 1
        · have hk1 : ((t.k : Int) == 1) = true := by simp [hk]
          obtain ⟨x, q1, p, cl, q4, ps', rfl, hpc, hrest, rfl⟩ := parsL_go hk HPQ.out.1
          obtain ⟨hx3, hlk, hc2, hpk4⟩ := parsK_go hk hpc HPQ.out.2.1
          obtain ⟨hgp, hrok⟩ := parsOk_cons HPQ.out.2.2
          have HX3 := Lib.hid hx3
          have HPC := Lib.hid hpc
          have HRE := Lib.hid (show parsL l f q4 = some (ps', te :: r2) ∧ parsK l f q4 = true ∧ parsOk (N ++ [x.s]) ps' = true from ⟨hrest, hpk4, hrok⟩)
          have HLE := Lib.hid (pieceL_len hpc)
          have HCK := Lib.hid (And.intro hlk (And.intro hc2 hgp))
          obtain ⟨d1, d2, d3⟩ := HQ7.out.cells HAT.out
          have hlp : s.p ≤ 2000 := by have h1 := HPL.out.len; have h2 := HAT.out.lt; omega
          have hwp : IntKind.i64.wrap ((s.p : Int) + 1) = (s.p : Int) + 1 := IntWalk.i64_in _ (by omega)
          have hnx := HQ7.out.next
          have HQ8 := Lib.hid hnx.1
          have HM8 := Lib.hid (made_kt HM7.out hnx.2)
          have HA8 := Lib.hid HAT.out.next
          clear HPQ hpc hrest hk hx3 hlk hc2 hpk4 hgp hrok hnx HAT
          go_wp2_with fail
          obtain ⟨V, hV⟩ : ∃ V, V = w7.setCell ⟨c.R, 1, none⟩ (.int .i64 ((s.p : Int) + 1)) := ⟨_, rfl⟩
          rw [← hV] at HQ8 HM8
          rw [← hV]
          clear hV d1 d2 d3 hwp hlp HQ7 HM7
          refine (HQ8.out.want HA8.out HX3.out HPL.out.len).mono ?_
          rintro e w9 ⟨rfl, s_w9, hs, ha, hkt⟩
          have HM9 := Lib.hid (made_kt HM8.out hkt)
          have HQ9 := Lib.hid hs
          have HA9 := Lib.hid ha
          clear hs ha hkt
          clear HQ8 HA8 HM8
          have HTE := Lib.hid (HQ9.out.term HPL.out HA9.out HPC.out (by have h : p.length ≤ 2000 := HBB.out.2.2 _ (List.mem_cons_self ..); omega) (by have := HBB.out.2.1; simp only [List.length_cons] at this; omega) HCK.out.2.2 HCK.out.1)
          go_wp2_with fail
          refine HTE.out.mono ?_
          rintro e w10 ⟨sv, nv10, s10, rfl, hlp, hfi, hq10, ha10, hkt⟩
          obtain ⟨tt, htt⟩ : ∃ tt, outT (readB p N i j) = tt := ⟨_, rfl⟩
          rw [htt] at hlp hfi
          rw [htt]
          have HTX := Lib.hid htt
          have HQ10 := Lib.hid hq10
          have HA10 := Lib.hid ha10
          have HK10 := Lib.hid hkt
          have HLP := Lib.hid hlp
          have HFI := Lib.hid hfi
          obtain ⟨au, cu, rfl, -, -⟩ := hlp.out
          have hbx := below_gr ((Below.refl w10.heap.size w10).alloc (Nat.le_refl _) (.cells #[.int .i64 tt.k, .int .i64 tt.i, .int .i64 tt.j, .int .i64 tt.n, .slice au tt.kids.length cu] 26))
          have HMA := Lib.hid (made_kt (made_kt HM9.out hkt) (kt_none hbx))
          have HQA := Lib.hid (HQ10.out.same hbx)
          obtain ⟨i0, hi, hz0, hz1, hz2⟩ := info_parts info_term
          have HI := Lib.hid (And.intro hi (And.intro hz0 (And.intro hz1 hz2)))
          clear hlp hfi hq10 ha10 hkt htt hbx hi hz0 hz1 hz2 HTE
          unfold tv
          go_wp2_with (at_builtin; refine stop_bi ?_)
          intro _
          refine wpList_append_lies _ rfl (.tmp 85) (.tmp 88) 24 rfl (w.heap.size + 1) 26 i0 _ 5 56 (by kernel_rfl) HI.out.1 HI.out.2.1 HI.out.2.2.1 HI.out.2.2.2 rfl (by decide) pv psL.length (cells5 psL) rfl HMA.out.own ⟨w10.heap.size, 0, none⟩ 1 1 (cells5 [(tt, .slice au tt.kids.length cu)]) rfl rfl (news_new _ _ _ _) (one5 _ _) (by decide) (by have := HBB.out.1; simp only [List.length_cons] at this; unfold maxLen; omega) (by have := HBB.out.1; simp only [List.length_cons] at this; omega) (by have := hltD HQ10.out.a.res; simp; omega) _ rfl ?_
          intro gq cap3 w11 hown hgrow hat _
          have HM11 := Lib.hid (push_at HM9.out HK10.out HFI.out (hltD HQ9.out.a.res) HLP.out _ hown hgrow hat)
          have HQ11 := Lib.hid (HQA.out.row HMA.out.own hgrow)
          clear hown hgrow hat
          go_wp2_with fail
          clear HQA HMA HI HK10 HLP
          refine (HQ11.out.want HA10.out HCK.out.2.1 HPL.out.len).mono ?_
          rintro e w12 ⟨rfl, s_w12, hs, ha, hkt⟩
          have HM12 := Lib.hid (made_kt HM11.out hkt)
          have HQ12 := Lib.hid hs
          have HA12 := Lib.hid ha
          clear hs ha hkt
          have hnb := below_gr ((Below.refl w12.heap.size w12).alloc (Nat.le_refl _) (.cells #[.string ⟨x.s.toArray⟩] 9))
          have HQ13 := Lib.hid (HQ12.out.same hnb)
          have HM13 := Lib.hid (made_kt HM12.out (kt_none hnb))
          have HNX := Lib.hid (show (w12.alloc (.cells #[.string ⟨x.s.toArray⟩] 9)).cell? ⟨w12.heap.size, 0, none⟩ = some (strV x.s) from by rw [Lib.cell_of_heap (alloc_new w12 _)]; rfl)
          clear hnb HQ11 HQ12 HM11 HM12 HQ9 HM9 HA9 HA10 HQ10
          go_wp2_with fail
          refine (HQ13.out.push x.s _ HNX.out (by have := HBB.out.2.1; simp only [List.length_cons] at this; omega)).mono ?_
          rintro e w14 ⟨rfl, nv14, hq14, hkt⟩
          have HQ14 := Lib.hid hq14
          have HM14 := Lib.hid (made_kt HM13.out hkt)
          clear hq14 hkt HQ13 HM13
          go_wp2_with fail
          go_roundg q4.length
          case measure => have := HLE.out.1; simp only [List.length_cons] at this ⊢; omega
          case rel =>
            have hb := HBB.out
            have hle := HLE.out
            simp only [List.length_cons] at hb hle
            exact ⟨f, q4, N ++ [x.s], _, _, _, psL ++ [(tt, .slice au tt.kids.length cu)], ps', rfl, rfl, HRE, Lib.hid (by have h := HPT.out; simp only [parsT, HTX.out] at h; rw [← h]; simp), Lib.hid (by have h := HNN.out; simp only [List.map_cons] at h; rw [← h]; simp), HQ14, HA12, by simpa using HM14, Lib.hid ⟨by simp only [List.length_append, List.length_cons, List.length_nil]; omega, by simp only [List.length_append, List.length_cons, List.length_nil]; omega, fun y hy => hb.2.2 y (List.mem_cons_of_mem _ hy)⟩⟩
        · have hk1 : ((t.k : Int) == 1) = false := by simp; omega
          have htk2 := parsK_stop hk HPQ.out.2.1
          obtain ⟨rfl, hq⟩ := parsL_stop hk HPQ.out.1
          obtain ⟨rfl, rfl⟩ := List.cons.inj hq
          have hps : psL.map (·.1) = parsT i j [] pl.pars := by have h := HPT.out; simpa [parsT] using h
          have hN : N = pl.pars.map (·.1) := by have h := HNN.out; simpa using h
          have HT2 := Lib.hid htk2
          have HPSL := Lib.hid hps
          subst hN
          clear hq hk HPQ HPT HNN hps htk2
          go_wp2_with fail
          refine (HQ7.out.want HAT.out HT2.out HPL.out.len).mono ?_
          rintro e w15 ⟨rfl, s_w15, hs, ha, hkt⟩
          have HM8 := Lib.hid (made_kt HM7.out hkt)
          have HQ8 := Lib.hid hs
          have HA8 := Lib.hid ha
          clear hs ha hkt
          obtain ⟨ap, np, cp, rfl⟩ : ∃ ap np cp, pv = .slice ap np cp := by obtain ⟨ap, cp, e, -⟩ := (made_lies HM8.out).out; exact ⟨ap, _, cp, e⟩
          have hsy := HQ8.out.sym
          unfold symV at hsy
          obtain ⟨⟨-, p1, -⟩, ⟨-, e1, -⟩⟩ := cells13 hsy
          have hst := HQ8.out.set 1 (.slice ap np cp)
          have HQ9 := Lib.hid (show PQ w c nS (symV pl.name (.slice ap np cp) (.slice none 0 0) (.slice none 0 0) Tm.zero Tm.zero pl.defn) _ _ _ _ from hst.1)
          have HM9 := Lib.hid (made_kt HM8.out hst.2)
          clear hsy hst HQ7 HAT HM7
          have HTE := Lib.hid (HQ9.out.term HPL.out HA8.out HTY.out (by have := HSM.out.2.2.1; omega) (by rw [List.length_map]; have := HSM.out.1; omega) HG.out.2.1 HLK.out)
          go_upto_region 20 with fail
          obtain ⟨V4, hV⟩ : ∃ V4, V4 = w15.setCell ⟨nS, 1, none⟩ (.slice ap np cp) := ⟨_, rfl⟩
          rw [← hV] at HQ9 HM9 HTE
          rw [← hV]
          clear hV p1 e1 HQ8 HM8
          go_wp2_with fail
          refine HTE.out.mono ?_
          rintro e w16 ⟨sv, nv16, s16, rfl, hlp, hfi, hq16, ha16, hkt⟩
          obtain ⟨ty, hty⟩ : ∃ ty, typeT pl i j = ty := ⟨_, rfl⟩
          rw [show outT (readB pl.type (pl.pars.map (·.1)) i j) = ty from hty] at hlp hfi
          rw [show outT (readB pl.type (pl.pars.map (·.1)) i j) = ty from hty]
          have HTYE := Lib.hid hty
          have HN2 := Lib.hid (made_kt HM9.out hkt)
          have HLT := Lib.hid (hlp.from (B' := w.heap.size) (Nat.le_of_lt (hltD HQ9.out.a.res)))
          have HFT := Lib.hid hfi
          have HA16 := Lib.hid ha16
          obtain ⟨au, cu, rfl, -, -⟩ := hlp.out
          have hsy := hq16.sym
          unfold symV at hsy
          obtain ⟨⟨-, -, p2, p3, p4, p5, p6, -⟩, ⟨-, -, e2, e3, e4, e5, e6, -⟩⟩ := cells13 hsy
          have hs5 := hq16.set5 2 3 4 5 6 (.int .i64 ty.k) (.int .i64 ty.i) (.int .i64 ty.j) (.int .i64 ty.n) (.slice au ty.kids.length cu)
          have HB3 := Lib.hid (show PQ w c nS (symV pl.name (.slice ap np cp) (.slice au ty.kids.length cu) (.slice none 0 0) ty Tm.zero pl.defn) _ _ _ _ from hs5.1)
          have HN3 := Lib.hid (made_kt HN2.out hs5.2)
          have HLT3 := Lib.hid (lies_kt HLT.out hs5.2)
          clear hlp hfi hq16 ha16 hkt hty hsy HTE hs5 HN2 HLT HQ9 HM9 HA8
          unfold tv
          go_upto_region 21 with fail
          obtain ⟨V, hV⟩ : ∃ V, V = ((((w16.setCell ⟨nS, 2, none⟩ (.int .i64 ty.k)).setCell ⟨nS, 3, none⟩ (.int .i64 ty.i)).setCell ⟨nS, 4, none⟩ (.int .i64 ty.j)).setCell ⟨nS, 5, none⟩ (.int .i64 ty.n)).setCell ⟨nS, 6, none⟩ (.slice au ty.kids.length cu) := ⟨_, rfl⟩
          rw [← hV] at HB3 HN3 HLT3
          rw [← hV]
          clear hV p2 p3 p4 p5 p6 e2 e3 e4 e5 e6
          have y12 : V.cell? ⟨nS, 12, none⟩ = some (.bool pl.defn) := by
            have h := HB3.out.sym
            unfold symV at h
            exact (cells13 h).1.2.2.2.2.2.2.2.2.2.2.2.2
          obtain ⟨dd, hdd⟩ : ∃ dd, pl.defn = dd := ⟨_, rfl⟩
          rw [hdd] at HB3 y12
          (try rw [hdd])
          have HDD := Lib.hid hdd
          rcases dd with _ | _
          · obtain ⟨hbn, tz, r6, hr3, htz⟩ := HNB.out hdd
            have HBO := Lib.hid (show bodyT pl i j = Tm.zero from by unfold bodyT; rw [hbn])
            have HTZ := Lib.hid htz
            subst hr3
            clear hdd hbn htz
            go_wp2_with fail
            refine (HB3.out.want HA16.out HTZ.out HPL.out.len).mono ?_
            rintro e w18 ⟨rfl, s_w18, hs, ha, hkt⟩
            have HLT6 := Lib.hid (lies_kt HLT3.out hkt)
            have HN6 := Lib.hid (made_kt HN3.out hkt)
            have HB6 := Lib.hid hs
            have HAZ := Lib.hid ha
            clear hs ha hkt
            clear y12 HB3 HN3 HLT3 HA16
            have hsy := HB6.out.sym
            have hrs := HB6.out.a.res
            unfold symV at hsy hrs
            have HSYR := Lib.hid hsy
            obtain ⟨⟨z0, z1, z2, z3, z4, z5, z6, z7, z8, z9, z10, z11, z12⟩, ⟨e0, e1, e2, e3, e4, e5, e6, e7, e8, e9, e10, e11, e12⟩⟩ := cells13 hrs
            have HRS := Lib.hid hrs
            obtain ⟨-, d2, -⟩ := HB6.out.cells HAZ.out
            clear hsy hrs
            have HKT := Lib.hid (set13_kt (T := 26) HRS.out (by decide) (.string ⟨pl.name.toArray⟩) (.slice ap np cp) (.int .i64 ty.k) (.int .i64 ty.i) (.int .i64 ty.j) (.int .i64 ty.n) (.slice au ty.kids.length cu) (.int .i64 Tm.zero.k) (.int .i64 Tm.zero.i) (.int .i64 Tm.zero.j) (.int .i64 Tm.zero.n) (.slice none 0 0) (.bool false))
            have HBL := Lib.hid (set13_below HB6.out.a.bel (Nat.le_refl _) (.string ⟨pl.name.toArray⟩) (.slice ap np cp) (.int .i64 ty.k) (.int .i64 ty.i) (.int .i64 ty.j) (.int .i64 ty.n) (.slice au ty.kids.length cu) (.int .i64 Tm.zero.k) (.int .i64 Tm.zero.i) (.int .i64 Tm.zero.j) (.int .i64 Tm.zero.n) (.slice none 0 0) (.bool false))
            have HST := Lib.hid (set13_heap HRS.out (.string ⟨pl.name.toArray⟩) (.slice ap np cp) (.int .i64 ty.k) (.int .i64 ty.i) (.int .i64 ty.j) (.int .i64 ty.n) (.slice au ty.kids.length cu) (.int .i64 Tm.zero.k) (.int .i64 Tm.zero.i) (.int .i64 Tm.zero.j) (.int .i64 Tm.zero.n) (.slice none 0 0) (.bool false))
            have hml := made_lies HN6.out
            rw [HPSL.out] at hml
            have HML := Lib.hid (hml.from (B' := w.heap.size) (Nat.le_succ _))
            clear hml
            go_upto_region 26 with fail
            clear d2
            go_wp2_with (refine stop_ld 37 (.tmp 12) rfl ?_)
            intro _
            refine wpList_load_row rfl 37 (.tmp 12) rfl nS rfl 37 _ (0, 0) du HSYR.out hu1 (by cases du <;> first | rfl | exact hu2) size_rsym ?_
            go_wp2
            (try simp only [Exit.inBlock, Exit.then])
            refine bodyPost_ret (results_cell_tmp rfl _ _ w.heap.size _ _ _ du rfl HST.out hu1 (by cases du <;> first | rfl | exact hu2) size_rsym) rfl ?_
            exact ⟨.slice ap np cp, .slice au ty.kids.length cu, .slice none 0 0, by rw [HTYE.out, HBO.out, HDD.out]; rfl, lies_kt HML.out HKT.out, by rw [HTYE.out]; exact lies_kt HLT6.out HKT.out, by rw [HBO.out]; exact liesP_nil _ _, by rw [HTYE.out]; exact HFT.out, by rw [HBO.out]; exact zero_fine, HBL.out⟩
          · obtain ⟨b, tz, r6, hpb, hlkb, htz, hbe⟩ := HBD.out hdd
            have HTZ := Lib.hid htz
            have HTB := Lib.hid (HB3.out.term HPL.out HA16.out hpb (by have := HSM.out.2.2.2 b hbe; omega) (by rw [List.length_map]; have := HSM.out.1; omega) (HG.out.2.2 b hbe) hlkb)
            clear hdd hpb hlkb htz
            go_wp2_with fail
            refine HTB.out.mono ?_
            rintro e w17 ⟨sv, nv17, s17, rfl, hlp, hfi, hq17, ha17, hkt⟩
            have hbo : bodyT pl i j = outT (readB b (pl.pars.map (·.1)) i j) := by unfold bodyT; rw [hbe]
            obtain ⟨bo, hbo2⟩ : ∃ bo, outT (readB b (pl.pars.map (·.1)) i j) = bo := ⟨_, rfl⟩
            rw [hbo2] at hlp hfi hbo
            rw [hbo2]
            have HBO := Lib.hid hbo
            have HN5 := Lib.hid (made_kt HN3.out hkt)
            have HLT5 := Lib.hid (lies_kt HLT3.out hkt)
            have HLB := Lib.hid (hlp.from (B' := w.heap.size) (Nat.le_of_lt (hltD HB3.out.a.res)))
            have HFB := Lib.hid hfi
            have HA17 := Lib.hid ha17
            obtain ⟨ab, cb, rfl, -, -⟩ := hlp.out
            have hsy := hq17.sym
            unfold symV at hsy
            obtain ⟨⟨-, -, -, -, -, -, -, p7, p8, p9, p10, p11, -⟩, ⟨-, -, -, -, -, -, -, e7, e8, e9, e10, e11, -⟩⟩ := cells13 hsy
            have hs5 := hq17.set5 7 8 9 10 11 (.int .i64 bo.k) (.int .i64 bo.i) (.int .i64 bo.j) (.int .i64 bo.n) (.slice ab bo.kids.length cb)
            have HB5 := Lib.hid (show PQ w c nS (symV pl.name (.slice ap np cp) (.slice au ty.kids.length cu) (.slice ab bo.kids.length cb) ty bo true) _ _ _ _ from hs5.1)
            have HN55 := Lib.hid (made_kt HN5.out hs5.2)
            have HLT55 := Lib.hid (lies_kt HLT5.out hs5.2)
            have HLB5 := Lib.hid (lies_kt HLB.out hs5.2)
            clear hlp hfi hq17 ha17 hkt hbo hbo2 hbe hsy hs5 HTB HN5 HLT5 HLB HB3 HN3 HLT3 HA16 y12
            unfold tv
            go_upto_region 23 with fail
            obtain ⟨U, hU⟩ : ∃ U, U = ((((w17.setCell ⟨nS, 7, none⟩ (.int .i64 bo.k)).setCell ⟨nS, 8, none⟩ (.int .i64 bo.i)).setCell ⟨nS, 9, none⟩ (.int .i64 bo.j)).setCell ⟨nS, 10, none⟩ (.int .i64 bo.n)).setCell ⟨nS, 11, none⟩ (.slice ab bo.kids.length cb) := ⟨_, rfl⟩
            rw [← hU] at HB5 HN55 HLT55 HLB5
            rw [← hU]
            clear hU p7 p8 p9 p10 p11 e7 e8 e9 e10 e11
            go_wp2_with fail
            refine (HB5.out.want HA17.out HTZ.out HPL.out.len).mono ?_
            rintro e w18 ⟨rfl, s_w18, hs, ha, hkt⟩
            have HLT6 := Lib.hid (lies_kt HLT55.out hkt)
            have HLB6 := Lib.hid (lies_kt HLB5.out hkt)
            have HN6 := Lib.hid (made_kt HN55.out hkt)
            have HB6 := Lib.hid hs
            have HAZ := Lib.hid ha
            clear hs ha hkt
            clear HB5 HN55 HLT55 HLB5 HA17
            have hsy := HB6.out.sym
            have hrs := HB6.out.a.res
            unfold symV at hsy hrs
            have HSYR := Lib.hid hsy
            obtain ⟨⟨z0, z1, z2, z3, z4, z5, z6, z7, z8, z9, z10, z11, z12⟩, ⟨e0, e1, e2, e3, e4, e5, e6, e7, e8, e9, e10, e11, e12⟩⟩ := cells13 hrs
            have HRS := Lib.hid hrs
            obtain ⟨-, d2, -⟩ := HB6.out.cells HAZ.out
            clear hsy hrs
            have HKT := Lib.hid (set13_kt (T := 26) HRS.out (by decide) (.string ⟨pl.name.toArray⟩) (.slice ap np cp) (.int .i64 ty.k) (.int .i64 ty.i) (.int .i64 ty.j) (.int .i64 ty.n) (.slice au ty.kids.length cu) (.int .i64 bo.k) (.int .i64 bo.i) (.int .i64 bo.j) (.int .i64 bo.n) (.slice ab bo.kids.length cb) (.bool true))
            have HBL := Lib.hid (set13_below HB6.out.a.bel (Nat.le_refl _) (.string ⟨pl.name.toArray⟩) (.slice ap np cp) (.int .i64 ty.k) (.int .i64 ty.i) (.int .i64 ty.j) (.int .i64 ty.n) (.slice au ty.kids.length cu) (.int .i64 bo.k) (.int .i64 bo.i) (.int .i64 bo.j) (.int .i64 bo.n) (.slice ab bo.kids.length cb) (.bool true))
            have HST := Lib.hid (set13_heap HRS.out (.string ⟨pl.name.toArray⟩) (.slice ap np cp) (.int .i64 ty.k) (.int .i64 ty.i) (.int .i64 ty.j) (.int .i64 ty.n) (.slice au ty.kids.length cu) (.int .i64 bo.k) (.int .i64 bo.i) (.int .i64 bo.j) (.int .i64 bo.n) (.slice ab bo.kids.length cb) (.bool true))
            have hml := made_lies HN6.out
            rw [HPSL.out] at hml
            have HML := Lib.hid (hml.from (B' := w.heap.size) (Nat.le_succ _))
            clear hml
            go_upto_region 26 with fail
            clear d2
            go_wp2_with (refine stop_ld 37 (.tmp 12) rfl ?_)
            intro _
            refine wpList_load_row rfl 37 (.tmp 12) rfl nS rfl 37 _ (0, 0) du HSYR.out hu1 (by cases du <;> first | rfl | exact hu2) size_rsym ?_
            go_wp2
            (try simp only [Exit.inBlock, Exit.then])
            refine bodyPost_ret (results_cell_tmp rfl _ _ w.heap.size _ _ _ du rfl HST.out hu1 (by cases du <;> first | rfl | exact hu2) size_rsym) rfl ?_
            exact ⟨.slice ap np cp, .slice au ty.kids.length cu, .slice ab bo.kids.length cb, by rw [HTYE.out, HBO.out, HDD.out]; rfl, lies_kt HML.out HKT.out, by rw [HTYE.out]; exact lies_kt HLT6.out HKT.out, by rw [HBO.out]; exact lies_kt HLB6.out HKT.out, by rw [HTYE.out]; exact HFT.out, by rw [HBO.out]; exact HFB.out, HBL.out⟩
end Go.Proofs.YtpekceadjcbphaaDoor.Sg

namespace Go.Proofs.YtpekceadjcbphaaDoor
open Go.RowKit

mutual
def sameB : Tm → Tm → Bool
  | .mk k i j n l, .mk k' i' j' n' l' => (k == k') && ((i == i') && ((j == j') && ((n == n') && samesB l l')))
def samesB : List Tm → List Tm → Bool
  | [], [] => true
  | x :: r, y :: s => sameB x y && samesB r s
  | [], _ :: _ => false
  | _ :: _, [] => false
end

theorem sameB_eq (a b : Tm) : sameB a b = ((a.k == b.k) && ((a.i == b.i) && ((a.j == b.j) && ((a.n == b.n) && samesB a.kids b.kids)))) := by
  cases a; cases b; simp only [sameB]; rfl

theorem samesB_length : ∀ {l m : List Tm}, samesB l m = true → l.length = m.length
  | [], [], _ => rfl
  | x :: r, y :: s, h => by simp only [samesB, Bool.and_eq_true] at h; simp [samesB_length h.2]
  | [], _ :: _, h => by simp [samesB] at h
  | _ :: _, [], h => by simp [samesB] at h

theorem sameB_self (a : Tm) : sameB a a = true := by
  induction a using Tm.ind with
  | h a ih =>
    rw [sameB_eq]
    have key : ∀ (l : List Tm), (∀ x ∈ l, sameB x x = true) → samesB l l = true := by
      intro l
      induction l with
      | nil => intro _; simp [samesB]
      | cons x r ihl => intro hx; simp only [samesB, hx x List.mem_cons_self, Bool.true_and]; exact ihl (fun z hz => hx z (List.mem_cons_of_mem _ hz))
    simp [key a.kids ih]

theorem sames_take : ∀ (l m : List Tm) (k : Nat) (h : k < l.length) (h' : k < m.length), samesB (l.take (k + 1)) (m.take (k + 1)) = (samesB (l.take k) (m.take k) && sameB l[k] m[k])
  | x :: r, y :: s, 0, _, _ => by simp [samesB]
  | x :: r, y :: s, k + 1, h, h' => by
    simp only [List.take_succ_cons, samesB, List.getElem_cons_succ]
    rw [sames_take r s k (by simpa using h) (by simpa using h'), Bool.and_assoc]

theorem sames_of : ∀ (l m : List Tm) (k : Nat) (h : k < l.length) (h' : k < m.length), sameB l[k] m[k] = false → samesB l m = false
  | x :: r, y :: s, 0, _, _, hs => by simp only [List.getElem_cons_zero] at hs; simp [samesB, hs]
  | x :: r, y :: s, k + 1, h, h', hs => by
    simp only [List.getElem_cons_succ] at hs
    simp [samesB, sames_of r s k (by simpa using h) (by simpa using h') hs]

theorem sames_ne {l m : List Tm} (h : l.length ≠ m.length) : samesB l m = false := by
  cases hs : samesB l m with
  | false => rfl
  | true => exact absurd (samesB_length hs) h

/-- Two boxed terms, and what is new beside them. -/
def Held2 (w : World) (a : Tm) (s : Value) (b : Tm) (r : Value) (w' : World) : Prop := Below (w.heap.size + 2) ((w.alloc (boxOf a s)).alloc (boxOf b r)) w'

theorem held2_start (w : World) (a : Tm) (s : Value) (b : Tm) (r : Value) : Held2 w a s b r ((w.alloc (.cells #[.int .i64 a.k, .int .i64 a.i, .int .i64 a.j, .int .i64 a.n, s] 26)).alloc (.cells #[.int .i64 b.k, .int .i64 b.i, .int .i64 b.j, .int .i64 b.n, r] 26)) := Below.refl _ _
theorem held2_first {w w' : World} {a b : Tm} {s r : Value} (h : Held2 w a s b r w') : Held w a s w' := by
  unfold Held2 at h; unfold Held
  exact ((Below.refl _ _).alloc (by simp) _).trans (h.mono (by omega))
theorem held2_call {w w1 w2 : World} {a b : Tm} {s r : Value} (h : Held2 w a s b r w1) (hb : Below w1.heap.size w1 w2) : Held2 w a s b r w2 :=
  below_call h hb (by have := h.size; simpa using this)
theorem held2_below {w w1 : World} {a b : Tm} {s r : Value} (h : Held2 w a s b r w1) : Below w.heap.size w w1 := held_below (held2_first h)
theorem held2_lies {w w1 : World} {a b : Tm} {s r s' : Value} {l : List Tm} (h : Held2 w a s b r w1) (hl : Lies w l s') : Lies w1 l s' := hl.keep (held2_below h)
end Go.Proofs.YtpekceadjcbphaaDoor

namespace Go.Proofs.YtpekceadjcbphaaDoor
open Go.RowKit

set_option maxHeartbeats 1000000 in
theorem terms_of (l : List Tm) (ih : ∀ x ∈ l, ∀ (y : Tm) (w : World) (s r : Value), Lies w x.kids s → Lies w y.kids r → Calls Tryd.prog 10 #[tv x s, tv y r] w fun e w' => e = .returned (.bool (sameB x y)) ∧ Below w.heap.size w w')
    (m : List Tm) (w : World) (s r : Value) (hl : Lies w l s) (hm : Lies w m r) : Calls Tryd.prog 14 #[s, r] w fun e w' => e = .returned (.bool (samesB l m)) ∧ Below w.heap.size w w' := by
  obtain ⟨a, cap, S, rfl, hc, hmx, -, hn, hk⟩ := hl.out
  obtain ⟨a2, cap2, S2, rfl, hc2, hmx2, -, hn2, hk2⟩ := hm.out
  unfold maxLen at hmx hmx2
  have IH := Lib.hid ih
  have HN := Lib.hid hn
  have HK := Lib.hid hk
  have HN2 := Lib.hid hn2
  have HK2 := Lib.hid hk2
  clear ih hn hk hn2 hk2 hl hm
  by_cases hlen : l.length = m.length
  rotate_left
  · have h1 : ((l.length : Int) == (m.length : Int)) = false := by simp; omega
    have h2 : ((l.length : Int) != (m.length : Int)) = true := by simp; omega
    have HS := Lib.hid (sames_ne hlen)
    clear hlen
    go_enter Tryd.func14, Tryd.ntmps14
    go_wp2
    go_ret
    exact ⟨ret_bool HS.out.symm, Below.refl _ _⟩
  have h1 : ((l.length : Int) == (m.length : Int)) = true := by simp; omega
  have h2 : ((l.length : Int) != (m.length : Int)) = false := by simp; omega
  have HL := Lib.hid hlen
  clear hlen
  go_enter Tryd.func14, Tryd.ntmps14
  go_wp2
  go_loopw [5] (fun iv wr => ∃ k : Nat, k ≤ l.length ∧ iv = .int .i64 k ∧ Hid (samesB (l.take k) (m.take k) = true) ∧ Below w.heap.size w wr) (fun iv _ => l.length - (intOf iv).toNat)
  case atStart => exact ⟨0, Nat.zero_le _, rfl, by simp [Hid, samesB], Below.refl _ _⟩
  case round =>
    obtain ⟨k, hk, rfl, hgood, hb⟩ := hrel
    by_cases hlt : k < l.length
    · have hlt2 : k < m.length := by have := HL.out; omega
      obtain ⟨b, o, rfl, hx⟩ := HN.out k hlt
      obtain ⟨b2, o2, rfl, hx2⟩ := HN2.out k hlt2
      obtain ⟨c0, c1, c2, c3, c4⟩ := hx.below hb hx.lt
      obtain ⟨e0, e1, e2, e3, e4⟩ := hx2.below hb hx2.lt
      have hq := (HK.out k hlt).keep hb
      have hq2 := (HK2.out k hlt2).keep hb
      obtain ⟨a', cap', S', hS, -⟩ := hq.out
      obtain ⟨a2', cap2', S2', hS2, -⟩ := hq2.out
      rw [hS] at c4 hq
      rw [hS2] at e4 hq2
      have HQ := Lib.hid hq
      have HQ2 := Lib.hid hq2
      have HM := Lib.hid (List.getElem_mem hlt)
      have HT := Lib.hid (sames_take l m k hlt hlt2)
      have HO := Lib.hid (sames_of l m k hlt hlt2)
      clear hS hS2 hq hq2
      go_wp2
      go_region_with (go_at_call 10; refine (IH.out _ HM.out _ _ _ _ (HQ.out.keep (Below.refl _ _).drew) (HQ2.out.keep (Below.refl _ _).drew)).mono ?_; rintro e wn ⟨rfl, hb'⟩; have HB3 := below_call hb.drew hb' hb.size; clear hb')
      all_goals
        cases hs : sameB l[k] m[k]
        · go_wp2
          go_ret
          exact ⟨ret_bool (HO.out hs).symm, HB3⟩
        · go_wp2
          go_roundw
          case rel => exact ⟨k + 1, by omega, by go_num, by show _ = true; rw [HT.out, hgood.out, hs]; rfl, HB3⟩
          case measure => simp [intOf]; omega
    · have : k = l.length := by omega
      subst this
      go_wp2
      go_ret
      exact ⟨ret_bool (by have hg := hgood.out; rw [List.take_length, HL.out, List.take_length] at hg; exact hg.symm), hb⟩

set_option maxHeartbeats 1000000 in
theorem keepsame_any (t : Tm) : ∀ (u : Tm) (w : World) (s r : Value), Lies w t.kids s → Lies w u.kids r → Calls Tryd.prog 10 #[tv t s, tv u r] w fun e w' => e = .returned (.bool (sameB t u)) ∧ Below w.heap.size w w' := by
  induction t using Tm.ind with
  | h t ih =>
    intro u w s r hl hm
    obtain ⟨a, cap, S, rfl, -⟩ := hl.out
    obtain ⟨a2, cap2, S2, rfl, -⟩ := hm.out
    have HTM := Lib.hid (terms_of t.kids ih)
    have HE := Lib.hid (sameB_eq t u)
    have HL := Lib.hid hl
    have HM := Lib.hid hm
    have H0 := held2_start w t (.slice a t.kids.length cap) u (.slice a2 u.kids.length cap2)
    clear hl hm ih
    unfold tv
    cases ek : (t.k == u.k)
    · go_enter Tryd.func10, Tryd.ntmps10
      go_wp2
      go_ret
      exact ⟨ret_bool (by rw [HE.out]; simp only [ek, Bool.false_and]), held2_below H0⟩
    cases ei : (t.i == u.i)
    · go_enter Tryd.func10, Tryd.ntmps10
      go_wp2
      go_ret
      exact ⟨ret_bool (by rw [HE.out]; simp only [ek, ei, Bool.false_and, Bool.true_and]), held2_below H0⟩
    cases ej : (t.j == u.j)
    · go_enter Tryd.func10, Tryd.ntmps10
      go_wp2
      go_ret
      exact ⟨ret_bool (by rw [HE.out]; simp only [ek, ei, ej, Bool.false_and, Bool.true_and]), held2_below H0⟩
    cases en : (t.n == u.n)
    · go_enter Tryd.func10, Tryd.ntmps10
      go_wp2
      go_ret
      exact ⟨ret_bool (by rw [HE.out]; simp only [ek, ei, ej, en, Bool.false_and, Bool.true_and]), held2_below H0⟩
    go_enter Tryd.func10, Tryd.ntmps10
    go_wp2_with fail
    refine (HTM.out u.kids _ _ _ (held2_lies H0 HL.out) (held2_lies H0 HM.out)).mono ?_
    rintro e wn ⟨rfl, hb'⟩
    have H1 := held2_call H0 hb'
    clear hb'
    go_wp2
    go_ret
    exact ⟨ret_bool (by rw [HE.out]; simp only [ek, ei, ej, en, Bool.true_and]), held2_below H1⟩
end Go.Proofs.YtpekceadjcbphaaDoor

namespace Go.Proofs.YtpekceadjcbphaaDoor.Sg
open Go.RowKit
open Rt (below_gr below_of)

theorem samesT_self : ∀ l : List Tm, samesB l l = true
  | [] => rfl
  | x :: r => by simp only [samesB, sameB_self, samesT_self r, Bool.and_true]
theorem keepterms_anyS (l m : List Tm) (w : World) (s r : Value) (hl : Lies w l s) (hm : Lies w m r) : Calls Tryd.prog 14 #[s, r] w fun e w' => e = .returned (.bool (samesB l m)) ∧ Below w.heap.size w w' :=
  terms_of l (fun x _ y w s r h1 h2 => keepsame_any x y w s r h1 h2) m w s r hl hm
end Go.Proofs.YtpekceadjcbphaaDoor.Sg

namespace Go.Proofs.YtpekceadjcbphaaDoor.Sg
open Go.RowKit
open Rt (below_gr below_of)

/-- A symbol is handed back, and a bool. -/
def SymG (name : List UInt8) (qs : List Tm) (ty bo : Tm) (d ok : Bool) (w : World) (e : Ending) (w' : World) : Prop := ∃ ps ts bs, e = .returned (.tuple #[.agg (symV name ps ts bs ty bo d), .bool ok]) ∧ LiesP w' (Own w.heap.size w') qs ps ∧ LiesP w' (Own w.heap.size w') ty.kids ts ∧ LiesP w' (Own w.heap.size w') bo.kids bs ∧ Below w.heap.size w w'
theorem AtG.sym {pl : Plan} {i j : Int} {w w' : World} {e : Ending} (h : AtG pl i j w e w') : SymG pl.name (parsT i j [] pl.pars) (typeT pl i j) (bodyT pl i j) pl.defn true w e w' := by
  obtain ⟨ps, ts, bs, h1, h2, h3, h4, -, -, h5⟩ := h
  exact ⟨ps, ts, bs, h1, h2, h3, h4, h5⟩
theorem symG_none {w w' : World} {e : Ending} (h : e = .returned (.tuple #[noSym, .bool false]) ∧ Below w.heap.size w w') : SymG [] [] Tm.zero Tm.zero false false w e w' := ⟨_, _, _, h.1, liesP_nil _ _, liesP_nil _ _, liesP_nil _ _, h.2⟩
set_option maxHeartbeats 4000000 in
set_option maxRecDepth 20000 in
theorem exact_of (n i j : Int) (w : World) (name : List UInt8) (qs : List Tm) (ty bo : Tm) (d ok : Bool) (hA : Calls Tryd.prog 12 #[.int .i64 n, .int .i64 i, .int .i64 j] w (SymG name qs ty bo d ok w)) (hB : ∀ w' : World, Below w.heap.size w w' → Calls Tryd.prog 13 #[.int .i64 n, .int .i64 i, .int .i64 j] w' (SymG name qs ty bo d ok w')) (hT : TabsR w.heap.size w) : Calls Tryd.prog 4 #[.int .i64 n, .int .i64 i, .int .i64 j] w fun e w' => e = .returned (.bool true) ∧ Below w.heap.size w w' := by
  have HA := Lib.hid hA
  have HB := Lib.hid hB
  have HWK := Lib.hid (fun (w' : World) (hb : Below w.heap.size w w') => wakes17_any w' (hT.keep hb) hb.size)
  clear hA hB hT
  go_enter Tryd.func4, Tryd.ntmps4
  go_wp2_with fail
  refine HA.out.mono ?_
  rintro e w1 ⟨ps, ts, bs, rfl, hps, hts, hbs, hb1⟩
  obtain ⟨ap1, np1, cp1, rfl, hnp1⟩ := liesP_slice hps
  obtain ⟨au1, nu1, cu1, rfl, hnu1⟩ := liesP_slice hts
  obtain ⟨ab1, nb1, cb1, rfl, hnb1⟩ := liesP_slice hbs
  have hsy : (w1.alloc (.cells (symV name (.slice ap1 np1 cp1) (.slice au1 nu1 cu1) (.slice ab1 nb1 cb1) ty bo d) 34)).heap[w1.heap.size]? = some _ := alloc_new _ _
  have hb3 := (Below.refl w1.heap.size w1).alloc (Nat.le_refl _) (.cells (symV name (.slice ap1 np1 cp1) (.slice au1 nu1 cu1) (.slice ab1 nb1 cb1) ty bo d) 34)
  have hb2 := hb1.alloc hb1.size (.cells (symV name (.slice ap1 np1 cp1) (.slice au1 nu1 cu1) (.slice ab1 nb1 cb1) ty bo d) 34)
  have HLP1 := Lib.hid (hps.lies.keep hb3)
  have HLT1 := Lib.hid (hts.lies.keep hb3)
  have HLB1 := Lib.hid (hbs.lies.keep hb3)
  have HSY1 := Lib.hid hsy
  have HBW := Lib.hid hb2
  clear hnp1 hnu1 hnb1 hps hts hbs hb1 hb2 hb3 hsy
  unfold symV
  go_wp2_with fail
  refine (HB.out _ HBW.out).mono ?_
  rintro e w2 ⟨ps, ts, bs, rfl, hps, hts, hbs, hb1⟩
  obtain ⟨ap2, np2, cp2, rfl, hnp2⟩ := liesP_slice hps
  obtain ⟨au2, nu2, cu2, rfl, hnu2⟩ := liesP_slice hts
  obtain ⟨ab2, nb2, cb2, rfl, hnb2⟩ := liesP_slice hbs
  have hsy : (w2.alloc (.cells (symV name (.slice ap2 np2 cp2) (.slice au2 nu2 cu2) (.slice ab2 nb2 cb2) ty bo d) 37)).heap[w2.heap.size]? = some _ := alloc_new _ _
  have hb3 := (Below.refl w2.heap.size w2).alloc (Nat.le_refl _) (.cells (symV name (.slice ap2 np2 cp2) (.slice au2 nu2 cu2) (.slice ab2 nb2 cb2) ty bo d) 37)
  have hb2 := hb1.alloc hb1.size (.cells (symV name (.slice ap2 np2 cp2) (.slice au2 nu2 cu2) (.slice ab2 nb2 cb2) ty bo d) 37)
  have HLP2 := Lib.hid (hps.lies.keep hb3)
  have HLT2 := Lib.hid (hts.lies.keep hb3)
  have HLB2 := Lib.hid (hbs.lies.keep hb3)
  have HSY2 := Lib.hid hsy
  have hba := hb2
  have HSY1 := Lib.hid ((hba.block _ (Array.getElem?_eq_some_iff.1 HSY1.out).1).trans HSY1.out)
  have HLP1 := Lib.hid (HLP1.out.keep hba)
  have HLT1 := Lib.hid (HLT1.out.keep hba)
  have HLB1 := Lib.hid (HLB1.out.keep hba)
  have HBW := Lib.hid (HBW.out.trans (hba.mono HBW.out.size))
  clear hba
  clear hnp2 hnu2 hnb2 hps hts hbs hb1 hb2 hb3 hsy
  unfold symV
  go_upto_region 3 with fail
  obtain ⟨W, hW⟩ : ∃ W, W = w2.alloc (.cells (symV name (.slice ap2 np2 cp2) (.slice au2 nu2 cu2) (.slice ab2 nb2 cb2) ty bo d) 37) := ⟨_, rfl⟩
  rw [← hW] at HBW HSY1 HLP1 HLT1 HLB1 HSY2 HLP2 HLT2 HLB2
  unfold symV at hW
  rw [← hW]
  clear hW
  have hsy := HSY1.out
  unfold symV at hsy
  obtain ⟨⟨p0, p1, p2, p3, p4, p5, p6, p7, p8, p9, p10, p11, p12⟩, -⟩ := cells13 hsy
  clear hsy
  have hsy := HSY2.out
  unfold symV at hsy
  obtain ⟨⟨q0, q1, q2, q3, q4, q5, q6, q7, q8, q9, q10, q11, q12⟩, -⟩ := cells13 hsy
  clear hsy
  go_wp2_with fail
  refine (keepterms_anyS qs qs _ _ _ (by have h := HLP1.out; exact h) (by have h := HLP2.out; exact h)).mono ?_
  rintro e w4 ⟨rfl, hba⟩
  rw [samesT_self]
  clear p0 p1 p2 p3 p4 p5 p6 p7 p8 p9 p10 p11 p12 q0 q1 q2 q3 q4 q5 q6 q7 q8 q9 q10 q11 q12
  have HSY1 := Lib.hid ((hba.block _ (Array.getElem?_eq_some_iff.1 HSY1.out).1).trans HSY1.out)
  have HLP1 := Lib.hid (HLP1.out.keep hba)
  have HLT1 := Lib.hid (HLT1.out.keep hba)
  have HLB1 := Lib.hid (HLB1.out.keep hba)
  have HSY2 := Lib.hid ((hba.block _ (Array.getElem?_eq_some_iff.1 HSY2.out).1).trans HSY2.out)
  have HLP2 := Lib.hid (HLP2.out.keep hba)
  have HLT2 := Lib.hid (HLT2.out.keep hba)
  have HLB2 := Lib.hid (HLB2.out.keep hba)
  have HBW := Lib.hid (HBW.out.trans (hba.mono HBW.out.size))
  clear hba
  have hsy := HSY1.out
  unfold symV at hsy
  obtain ⟨⟨p0, p1, p2, p3, p4, p5, p6, p7, p8, p9, p10, p11, p12⟩, -⟩ := cells13 hsy
  clear hsy
  have hsy := HSY2.out
  unfold symV at hsy
  obtain ⟨⟨q0, q1, q2, q3, q4, q5, q6, q7, q8, q9, q10, q11, q12⟩, -⟩ := cells13 hsy
  clear hsy
  go_wp2_with fail
  refine (keepsame_any ty ty _ _ _ HLT1.out HLT2.out).mono ?_
  rintro e w5 ⟨rfl, hba⟩
  rw [sameB_self]
  clear p0 p1 p2 p3 p4 p5 p6 p7 p8 p9 p10 p11 p12 q0 q1 q2 q3 q4 q5 q6 q7 q8 q9 q10 q11 q12
  have HSY1 := Lib.hid ((hba.block _ (Array.getElem?_eq_some_iff.1 HSY1.out).1).trans HSY1.out)
  have HLP1 := Lib.hid (HLP1.out.keep hba)
  have HLT1 := Lib.hid (HLT1.out.keep hba)
  have HLB1 := Lib.hid (HLB1.out.keep hba)
  have HSY2 := Lib.hid ((hba.block _ (Array.getElem?_eq_some_iff.1 HSY2.out).1).trans HSY2.out)
  have HLP2 := Lib.hid (HLP2.out.keep hba)
  have HLT2 := Lib.hid (HLT2.out.keep hba)
  have HLB2 := Lib.hid (HLB2.out.keep hba)
  have HBW := Lib.hid (HBW.out.trans (hba.mono HBW.out.size))
  clear hba
  have hsy := HSY1.out
  unfold symV at hsy
  obtain ⟨⟨p0, p1, p2, p3, p4, p5, p6, p7, p8, p9, p10, p11, p12⟩, -⟩ := cells13 hsy
  clear hsy
  have hsy := HSY2.out
  unfold symV at hsy
  obtain ⟨⟨q0, q1, q2, q3, q4, q5, q6, q7, q8, q9, q10, q11, q12⟩, -⟩ := cells13 hsy
  clear hsy
  go_wp2_with fail
  refine (keepsame_any bo bo _ _ _ HLB1.out HLB2.out).mono ?_
  rintro e w6 ⟨rfl, hba⟩
  rw [sameB_self]
  clear p0 p1 p2 p3 p4 p5 p6 p7 p8 p9 p10 p11 p12 q0 q1 q2 q3 q4 q5 q6 q7 q8 q9 q10 q11 q12
  have HSY1 := Lib.hid ((hba.block _ (Array.getElem?_eq_some_iff.1 HSY1.out).1).trans HSY1.out)
  have HLP1 := Lib.hid (HLP1.out.keep hba)
  have HLT1 := Lib.hid (HLT1.out.keep hba)
  have HLB1 := Lib.hid (HLB1.out.keep hba)
  have HSY2 := Lib.hid ((hba.block _ (Array.getElem?_eq_some_iff.1 HSY2.out).1).trans HSY2.out)
  have HLP2 := Lib.hid (HLP2.out.keep hba)
  have HLT2 := Lib.hid (HLT2.out.keep hba)
  have HLB2 := Lib.hid (HLB2.out.keep hba)
  have HBW := Lib.hid (HBW.out.trans (hba.mono HBW.out.size))
  clear hba
  go_wp2_with fail
  refine (HWK.out _ HBW.out).mono ?_
  rintro e w12 ⟨rfl, hb6⟩
  have HB6 := Lib.hid (HBW.out.trans (hb6.mono HBW.out.size))
  clear hb6
  go_wp2
  go_ret
  exact ⟨rfl, HB6.out⟩
theorem sigExact_any (n i j : Int) (w : World) (hT : TabsR w.heap.size w) : Calls Tryd.prog 4 #[.int .i64 n, .int .i64 i, .int .i64 j] w fun e w' => e = .returned (.bool true) ∧ Below w.heap.size w w' := by
  by_cases h : n < 1 ∨ 21 < n ∨ i < 0 ∨ 1000 ≤ i ∨ j < 0 ∨ 1000 ≤ j
  · exact exact_of n i j w [] [] Tm.zero Tm.zero false false ((at_none n i j w h).mono fun _ _ h => symG_none h) (fun w' _ => (pat_none n i j w' h).mono fun _ _ h => symG_none h) hT
  · obtain ⟨m, l, ts, pl, hm, hl, hlx, hpl, hok, -⟩ := sym_plan (m := n) (by omega) (by omega)
    exact exact_of n i j w pl.name _ _ _ pl.defn true ((at_some m n i j w hl hm (by omega) (by omega) hT (Nat.le_refl _) hlx hpl).mono fun _ _ h => h.sym) (fun w' _ => (pat_some m n i j w' hl hm (by omega) (by omega) hlx hpl hok).mono fun _ _ h => h.sym) hT
end Go.Proofs.YtpekceadjcbphaaDoor.Sg

namespace Go.Proofs.YtpekceadjcbphaaDoor
open Go.RowKit Go.Lib

/-- The library's table stays as it is whatever is made. -/
def Tab (w : World) : Prop := TabBelow Tryd.prog w.heap.size w "internal/strconv.uint64pow10" .u64 pow10Tab
theorem Tab.later {w w' : World} (h : Tab w) (hb : Below w.heap.size w w') : Tab w' := fun _ h2 => TabBelow.here (TabBelow.on h (hb.trans (h2.mono hb.size)))
/-- A variable that holds just these texts. -/
def StrIs (w : World) (name : String) (ss : List (List UInt8)) : Prop := w.var? Tryd.prog name = some (ss.map fun s => Value.string ⟨s.toArray⟩).toArray
theorem StrIs.cell {W : World} {name : String} {ss : List (List UInt8)} {g : Nat} (h : StrIs W name ss) (hg : Tryd.prog.globalNamed name = some g) (i : Nat) (hi : i < ss.length) : W.cell? ⟨g, i, none⟩ = some (.string ⟨(ss[i]).toArray⟩) := by
  have := World.var?_cell hg h i
  simpa [hi] using this
theorem StrIs.on {w w' : World} {name : String} {ss : List (List UInt8)} (h : StrIs w name ss) (hb : Below w.heap.size w w') : StrIs w' name ss := by
  unfold StrIs World.var? at *
  cases hg : Tryd.prog.globalNamed name with
  | none => simp [hg] at h
  | some g =>
    simp only [hg, Option.bind_some] at h ⊢
    have hlt : g < w.heap.size := by
      rcases Nat.lt_or_ge g w.heap.size with h' | h'
      · exact h'
      · rw [Array.getElem?_eq_none h'] at h; simp at h
    rw [hb.block g hlt]
    exact h
/-- What a text of a term is written from. -/
structure WTab (w : World) : Prop where
  pow : Tab w
  syms : StrIs w "tranship/read.symbols" symsW
  heads : StrIs w "tranship/write.heads" headsW
theorem WTab.later {w w' : World} (h : WTab w) (hb : Below w.heap.size w w') : WTab w' := ⟨h.pow.later hb, h.syms.on hb, h.heads.on hb⟩
end Go.Proofs.YtpekceadjcbphaaDoor

namespace Go.Proofs.YtpekceadjcbphaaDoor
open Go.ChangeShapes Go.WideShapes Go.ChangeAt Go.RowKit

theorem own : ownKnob Tryd.prog.godebug = none := by kernel_rfl
instance instOpenTm : Inhabited (Tm × Value) := ⟨(.mk 0 0 0 0 [], .nilIface)⟩

end Go.Proofs.YtpekceadjcbphaaDoor

namespace Go.Proofs.YtpekceadjcbphaaDoor
theorem lt_of_cell {w : World} {b i : Nat} {v : Value} (h : w.cell? ⟨b, i, none⟩ = some v) : b < w.heap.size := by
  rcases Nat.lt_or_ge b w.heap.size with h1 | h1
  · exact h1
  · exfalso
    simp [World.cell?, Array.getElem?_eq_none h1] at h
open Go.ChangeShapes Go.WideShapes Go.ChangeAt Go.WideMaps Go.WideElems Go.RowKit

def laidT : List (String × DataW Unit) := Rows.readExactRow.laid
theorem door_met (os : Os) (args : Array Value) : laidMetH Tryd.prog laidT ((World.doorLaid Tryd.prog 400 os).forCall (fun _ _ => 0) ⟨#[], args, []⟩).memory :=
  laidMetH_of_parts3 (fuel := 8) (laidMet_of_run' 8 (by kernel_rfl) (by kernel_rfl)) (by kernel_rfl) (by kernel_rfl)
/-- A table of texts as a row lists it. -/
def strData {H : Type} (ss : List (List UInt8)) : DataW H := .agg (ss.map fun s => .lit (.string s))
theorem cells_of_strs {H : Type} {enc : TypeId × Value → H} {P : Program} {w : World} {base : Nat} {sp : Nat → Bool} {held : Bool} {fuel : Nat} {t e : TypeId} {n : Nat} {cs : List Value} {zs : List (List UInt8)} {p : List MemPlace}
    (ht : P.underlying t = some (.array n e)) (he : P.underlying e = some .string) (hce : P.cellsOf e = 1) (hct : P.cellsOf t = n)
    (h : DataW.trod enc P w base sp held fuel t cs = some (strData zs, p)) : cs = zs.map fun z => Value.string ⟨z.toArray⟩ := by
  cases fuel with
  | zero => simp [DataW.trod] at h
  | succ fuel =>
    simp only [DataW.trod, ht, hce, hct, Nat.mul_one] at h
    split at h
    · rename_i hl
      obtain ⟨xs, hm, hx⟩ := Option.map_eq_some_iff.1 h
      have hxs : xs.map (·.1) = zs.map fun z => (DataW.lit (.string z) : DataW H) := by
        have := congrArg Prod.fst hx
        simpa [strData] using this
      have hxl : xs.length = n := by simpa using Lib.mapM_length hm
      have hzl : zs.length = n := by
        have := congrArg List.length hxs
        simp at this
        omega
      apply List.ext_getElem?
      intro i
      by_cases hi : i < n
      · obtain ⟨b, hb, hf⟩ := Lib.mapM_at hm i i (by simp [hi])
        obtain ⟨z, hc, rfl, _⟩ := DataW.trod_string he hf
        have h1 : cs[i]? = some (.string z) := by
          have := congrArg (·[0]?) hc
          simpa [List.getElem?_take, List.getElem?_drop] using this
        have h2 : (xs.map (·.1))[i]? = some (DataW.lit (.string z.data.toList) : DataW H) := by simp [hb]
        rw [hxs] at h2
        simp only [List.getElem?_map, Option.map_eq_some_iff, DataW.lit.injEq, Lit.string.injEq] at h2
        obtain ⟨z', hz', e2⟩ := h2
        rw [h1, List.getElem?_map, hz']
        subst e2
        simp
      · rw [List.getElem?_eq_none (by omega), List.getElem?_eq_none (by simp; omega)]
    · cases h
theorem strIs_of_head {W : World} {name : String} {zs : List (List UInt8)} {rest : List (String × DataW Unit)} {g : Nat} {t e : TypeId} {n : Nat}
    (hg : Tryd.prog.globalNamed name = some g) (hty : (Tryd.prog.globals[g]?).map (·.type) = some t) (ht : Tryd.prog.underlying t = some (.array n e)) (he : Tryd.prog.underlying e = some .string) (hce : Tryd.prog.cellsOf e = 1) (hct : Tryd.prog.cellsOf t = n)
    (h : laidMet Tryd.prog ((name, strData zs) :: rest) W) : StrIs W name zs := by
  obtain ⟨ps, ⟨g', t', cs, fuel, p, q, hg', ht', hvar, hd, _, _⟩, _⟩ := h
  obtain rfl := Option.some.inj (hg.symm.trans hg')
  obtain rfl := Option.some.inj (hty.symm.trans ht')
  unfold StrIs
  rw [hvar, ← cells_of_strs ht he hce hct hd]
theorem syms_of_laid {W : World} (h : laidMetH Tryd.prog laidT W) : StrIs W "tranship/read.symbols" symsW := by
  have h2 := h.filter fun x => x.1 == "tranship/read.symbols"
  have e : (laidT.filter fun x => x.1 == "tranship/read.symbols") = [("tranship/read.symbols", strData symsW)] := by kernel_rfl
  rw [e] at h2
  rw [MakeChecks.laidMetH_plain _ _ _ (by kernel_rfl)] at h2
  exact strIs_of_head (g := 0) (t := 69) (e := 9) (n := 21) (by kernel_rfl) (by kernel_rfl) Tryd.underlying69 Tryd.underlying9 (by kernel_rfl) (by kernel_rfl) h2
theorem rheads_of_laid {W : World} (h : laidMetH Tryd.prog laidT W) : StrIs W "tranship/read.heads" (headsW.drop 3) := by
  have h2 := h.filter fun x => x.1 == "tranship/read.heads"
  have e : (laidT.filter fun x => x.1 == "tranship/read.heads") = [("tranship/read.heads", strData (headsW.drop 3))] := by kernel_rfl
  rw [e] at h2
  rw [MakeChecks.laidMetH_plain _ _ _ (by kernel_rfl)] at h2
  exact strIs_of_head (g := 1) (t := 69) (e := 9) (n := 21) (by kernel_rfl) (by kernel_rfl) Tryd.underlying69 Tryd.underlying9 (by kernel_rfl) (by kernel_rfl) h2
theorem tabsR_of_laid {W : World} (h : laidMetH Tryd.prog laidT W) : TabsR W.heap.size W := by
  have h1 := syms_of_laid h
  have h2 := rheads_of_laid h
  have c1 : ∀ k < 21, W.cell? ⟨0, k, none⟩ = some (.string ⟨((symsW[k]?).getD []).toArray⟩) := fun k hk => by
    have hl : k < symsW.length := hk
    rw [h1.cell (g := 0) (by kernel_rfl) k hl, List.getElem?_eq_getElem hl]; rfl
  have c2 : ∀ k < 21, W.cell? ⟨1, k, none⟩ = some (.string ⟨(((headsW.drop 3)[k]?).getD []).toArray⟩) := fun k hk => by
    have hl : k < (headsW.drop 3).length := hk
    rw [h2.cell (g := 1) (by kernel_rfl) k hl, List.getElem?_eq_getElem hl]; rfl
  exact ⟨⟨lt_of_cell (c2 0 (by decide)), lt_of_cell (c1 0 (by decide))⟩, c2, c1⟩
end Go.Proofs.YtpekceadjcbphaaDoor

namespace Go.Proofs.YtpekceadjcbphaaDoor
open Go.ChangeShapes Go.WideShapes

def code (l : List Nat) : List Char := l.map Char.ofNat
def joinN : List (List Nat) → List Nat
  | [] => []
  | [a] => a
  | a :: b :: r => a ++ 32 :: joinN (b :: r)

theorem words_one : ∀ a : List Nat, (a.all fun n => Char.ofNat n != Char.ofNat 32) = true → wordsSigns (code a) = [code a]
  | [], _ => rfl
  | n :: a, h => by
    simp only [List.all_cons, Bool.and_eq_true, bne_iff_ne] at h
    have ih := words_one a h.2
    show wordsSigns (Char.ofNat n :: code a) = _
    rw [wordsSigns]
    · rw [ih]; rfl
    · exact h.1
theorem words_more : ∀ (a : List Nat) (r : List Char), (a.all fun n => Char.ofNat n != Char.ofNat 32) = true → wordsSigns (code a ++ Char.ofNat 32 :: r) = code a :: wordsSigns r
  | [], r, _ => by
    show wordsSigns (Char.ofNat 32 :: r) = _
    rw [show Char.ofNat 32 = _ from rfl, wordsSigns]; rfl
  | n :: a, r, h => by
    simp only [List.all_cons, Bool.and_eq_true, bne_iff_ne] at h
    have ih := words_more a r h.2
    show wordsSigns (Char.ofNat n :: (code a ++ Char.ofNat 32 :: r)) = _
    rw [wordsSigns]
    · rw [ih]; rfl
    · exact h.1
theorem words_join : ∀ ws : List (List Nat), ws ≠ [] → (ws.all fun w => w.all fun n => Char.ofNat n != Char.ofNat 32) = true → wordsSigns (code (joinN ws)) = ws.map code
  | [], h, _ => absurd rfl h
  | [a], _, h => by simp only [List.all_cons, List.all_nil, Bool.and_true] at h; exact words_one a h
  | a :: b :: r, _, h => by
    have h' := h
    rw [List.all_cons, Bool.and_eq_true] at h'
    have ih := words_join (b :: r) (by simp) h'.2
    show wordsSigns (code (a ++ 32 :: joinN (b :: r))) = _
    rw [show code (a ++ 32 :: joinN (b :: r)) = code a ++ Char.ofNat 32 :: code (joinN (b :: r)) from by simp [code], words_more a _ h'.1, ih]; rfl

def cutWords : List (List Nat) := [[104, 97, 114, 110, 101, 115, 115],
  [99, 55, 102, 55, 51, 55, 100, 97, 54, 53, 53, 56, 55, 54, 50, 99, 53, 97, 52, 53, 49, 55, 48, 53, 51, 55, 101, 99, 53, 102, 53, 98, 51, 101, 100, 50, 99, 100, 48, 48, 99, 56, 102, 54, 101, 98, 100, 49, 48, 48, 56, 50, 52, 54, 53, 99, 102, 100, 57, 55, 99, 97, 50, 100],
  [99, 117, 116],
  [97, 116],
  [116, 114, 97, 110, 115, 104, 105, 112, 47, 116, 114, 97, 110, 115, 104, 105, 112, 108, 97, 119, 48, 57, 46, 82, 101, 97, 100, 69, 120, 97, 99, 116],
  [116, 114, 97, 110, 115, 104, 105, 112, 47, 116, 114, 97, 110, 115, 104, 105, 112, 108, 97, 119, 49, 55, 46, 83, 105, 103, 69, 120, 97, 99, 116],
  [116, 114, 97, 110, 115, 104, 105, 112, 47, 116, 114, 97, 110, 115, 104, 105, 112, 108, 97, 119, 49, 55, 46, 83, 105, 103, 83, 104, 97, 112, 101],
  [116, 114, 97, 110, 115, 104, 105, 112, 47, 116, 114, 97, 110, 115, 104, 105, 112, 108, 97, 119, 49, 55, 46, 83, 105, 103, 76, 101, 118, 101, 108, 115]]

set_option maxRecDepth 100000 in
theorem cut_words : wordsSigns Tryd.prog.initOrder.toList = cutWords.map code := by
  have h : Tryd.prog.initOrder.toList = code (joinN cutWords) := by
    show (String.ofList (code (joinN cutWords))).toList = _
    exact String.toList_ofList
  rw [h]
  exact words_join cutWords (by simp [cutWords]) (by decide +kernel)

theorem cut_behind : behindMainWord (cutWords.map code) = code [99, 117, 116] :: cutWords.tail.tail.tail.map code := by kernel_rfl
theorem cut_lifts : stripLifts liftWords (code [99, 117, 116] :: cutWords.tail.tail.tail.map code) = ([], code [99, 117, 116] :: cutWords.tail.tail.tail.map code) := by kernel_rfl
theorem cut1 : (code [99, 117, 116] == "gc".toList) = false := by kernel_rfl
theorem cut2 : (code [99, 117, 116] == "spec".toList) = false := by kernel_rfl
theorem cut3 : (code [99, 117, 116] == "cut".toList) = true := by kernel_rfl
theorem cut_all : behindMainWord (wordsSigns Tryd.prog.initOrder.toList) = code [99, 117, 116] :: cutWords.tail.tail.tail.map code := by rw [cut_words, cut_behind]
theorem make_of (P : Program) {c : List Char} {rest : List (List Char)} (h : behindMainWord (wordsSigns P.initOrder.toList) = c :: rest) (h1 : (c == "gc".toList) = false) (h2 : (c == "spec".toList) = false) (h3 : (c == "cut".toList) = true) : P.make = some .cut := by
  unfold Program.make; rw [h]
  simp only [h1, h2, h3, Bool.or_self, Bool.false_eq_true, if_false, Bool.true_or, if_true]
theorem mayEnter_of (P : Program) {c : List Char} {rest : List (List Char)} (h : behindMainWord (wordsSigns P.initOrder.toList) = c :: rest) (h3 : ((stripLifts liftWords (c :: rest)).2.head? == some "cut".toList) = true)
    (h4 : (stripLifts liftWords (c :: rest)).1 = []) (h5 : P.laysLater = false) (h6 : P.bearsReflect = false) (h7 : P.doorFits [] = true) : P.mayEnter = true := by
  unfold Program.mayEnter; rw [h]
  refine Bool.or_eq_true_iff.2 (Or.inr ?_)
  rw [h3, h4, h5, h6, h7]; rfl
theorem row_make : Tryd.prog.make = some .cut := make_of Tryd.prog cut_all cut1 cut2 cut3
theorem row_mayEnter : Tryd.prog.mayEnter = true := mayEnter_of Tryd.prog cut_all (by rw [cut_lifts]; kernel_rfl) (by rw [cut_lifts]) (by kernel_rfl) (by kernel_rfl) (by kernel_rfl)
theorem row_lifts : Tryd.prog.liftsFinal = false := by unfold Program.liftsFinal Program.headLifts; rw [cut_all, cut_lifts]; kernel_rfl
end Go.Proofs.YtpekceadjcbphaaDoor

namespace Go.Proofs.YtpekceadjcbphaaDoor.lawSigExact
open Go.ChangeShapes Go.WideShapes Go.ChangeAt Go.RowKit Go.ChangeMaps

set_option maxRecDepth 100000 in
theorem lifted (os : Os) (started : os.Started) (H : Type) (enc : TypeId × Value → H) :
    ReturnsInHanded {} Tryd.checked os 4 .any (fun w args => (Rows.sigExactSpec.pre enc Tryd.prog Tryd.f4 [] false w args ∧ laidMetH Tryd.prog laidT w) ∧ sizedMet enc Tryd.prog Tryd.f4 (OpenSpec.ofChange Rows.sigExactSpec) false w args)
      (Rows.sigExactSpec.post enc Tryd.prog Tryd.f4 false true false false) := by
  refine returnsInHanded_of_change_and (C := Tryd.checked) (X := fun w _ => laidMetH Tryd.prog laidT w) (fun _ _ _ hh h => h.of_heap hh) own started (by kernel_rfl) Tryd.func4
    (ChangeSpec.witness_shaped (enc := enc) (C := Tryd.checked) (os := os) (X := fun w _ => laidMetH Tryd.prog laidT w) false (World.doorLaid Tryd.prog 400 os) #[.int .i64 0, .int .i64 0, .int .i64 0] 8 rfl (World.shaped_of_RefB (by kernel_rfl) (by kernel_rfl)) (by kernel_rfl) (by kernel_rfl) (by kernel_rfl) (door_met os _)) ?_
  intro W base args ds gs before hval0 hW _ _ hL _
  have hval : ∀ (j : Nat) t v, Tryd.f4.params[j]? = some t → args[j]? = some v → Value.okWide Tryd.prog W .any base t v := hval0
  have hW' := hW
  obtain ⟨p, q, hA0, hV, rfl, hfz, hnd⟩ := hW
  have hA : DataW.TrodAll enc Tryd.prog W 0 (fun _ => true) true Tryd.f4.params.toList args.toList ds p := hA0
  rw [Tryd.params4] at hA hval
  obtain ⟨v0, vs0, d0, ds0, p0, q0, hargs0, rfl, rfl, h0, r0⟩ := trodAll_cons hA
  obtain ⟨v1, vs1, d1, ds1, p1, q1, hargs1, rfl, rfl, h1, r1⟩ := trodAll_cons r0
  obtain ⟨v2, vs2, d2, ds2, p2, q2, hargs2, rfl, rfl, h2, r2⟩ := trodAll_cons r1
  obtain ⟨rfl, rfl, rfl⟩ := trodAll_nil r2
  obtain rfl : args = #[v0, v1, v2] := by cases args; simp_all
  obtain ⟨rfl, rfl⟩ := trodVars_none hV
  obtain ⟨a0, rfl, rfl, rfl, w0⟩ := open_int Tryd.underlying3 (hval 0 3 v0 rfl rfl) h0
  obtain ⟨a1, rfl, rfl, rfl, w1⟩ := open_int Tryd.underlying3 (hval 1 3 v1 rfl rfl) h1
  obtain ⟨a2, rfl, rfl, rfl, w2⟩ := open_int Tryd.underlying3 (hval 2 3 v2 rfl rfl) h2
  clear hA0 hval0
  simp only [List.append_nil] at hW'
  have hT := tabsR_of_laid hL
  refine (Sg.sigExact_any a0 a1 a2 W hT).mono fun e W' ⟨he, hb⟩ => ?_
  subst he
  exact ⟨_, rfl, _, _, _, [], _, [], hW', trodAll_cons_mk (shut_bool Tryd.underlying4 _) trodAll_mk0, (trodAll_cons_mk (shut_int Tryd.underlying3 w0) (trodAll_cons_mk (shut_int Tryd.underlying3 w1) (trodAll_cons_mk (shut_int Tryd.underlying3 w2) trodAll_mk0))), rfl, hb.frame _, fun h => by cases h⟩

theorem closed : joinedFacts Tryd.prog 4 Tryd.f4 Rows.sigExactSpec Rows.sigExactRow = true := by
  unfold joinedFacts
  rw [row_mayEnter, row_lifts, row_make]
  kernel_rfl
theorem sigExact_holds : Rows.SigExactSaid :=
  OpenClaim.holds_of_wide 4 Tryd.f4 rfl rfl rfl rfl rfl rfl rfl ⟨rfl, rfl, rfl, rfl, rfl⟩ rfl rfl rfl rfl rfl (by kernel_rfl) Tryd.func4 closed
    (of_decide_eq_true (by kernel_rfl)) (by unfold Func.isWrapper; first | (rw [if_pos (by decide +kernel)]; kernel_rfl) | (rw [if_neg (by decide +kernel)]; exact ⟨rfl, rfl⟩))
    (fun os started H enc _ => lifted os started H enc)
theorem proved : Rows.SigExactCardSaid :=
  Claim7.holds_tied_plain_at .later [] [.data, .data] true Rows.sigExactCard.stood.harness true
    sigExact_holds (fun _ h => by cases h) (by kernel_rfl) (fun _ h => by cases h) sigExact_row_tie rfl ⟨rfl, rfl⟩ (by kernel_rfl) rfl
    (fun f fn hf hfn => by
      obtain rfl : f = 4 := Option.some.inj ((show Tryd.prog.funcNamed "tranship/transhiplaw17.SigExact" = some 4 by kernel_rfl).symm.trans hf) |>.symm
      obtain rfl : fn = Tryd.f4 := (Option.some.inj (Tryd.func4.symm.trans hfn)).symm
      exact ⟨by kernel_rfl, fun j t ht => by
        rw [Tryd.params4] at ht
        have hm : t ∈ [3, 3, 3] := by simpa using Array.mem_of_getElem? ht
        have hall : ([3, 3, 3].all fun u => !Tryd.prog.wantsStandIn u) = true := by kernel_rfl
        exact (show Tryd.prog.wantsStandIn t = false by simpa using List.all_eq_true.1 hall t hm)⟩)
    (by kernel_rfl)
#print axioms proved
end Go.Proofs.YtpekceadjcbphaaDoor.lawSigExact
