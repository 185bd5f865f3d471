/-
  SigShape holds: for every input the call returns true, and the arguments read as before. No condition.
-/
import Derived.Lib.ItoaNum
import Derived.Lib.ItoaLen
import Derived.Test.YtpekceadjcbphaaDoorRows
import Derived.WalkKit
import Derived.Lib.Hide
import Derived.ProofKit
import Derived.LoopTactic
import Derived.Below
import Derived.IntWalk
import Derived.Lib.Strings
import Derived.Laws.Strings2
import Derived.Deep.AppendLies
import Derived.Laws.Rows
import Derived.OwnWalk
import Derived.KernelRfl
import Derived.Deep.RegionHeld3
import Derived.Lib.Builder
import Derived.WalkSmall
import Derived.Maps.GroupsBeside
import Derived.Maps.StringElems
import Derived.Laws.OwnMore
import Derived.Deep.RegionLaw
import Derived.Maps.AppendAt
import Derived.Deep.Cut
import Derived.Deep.DeepCutAuto
import Derived.Maps.OwnOps
import Derived.Maps.OwnSet
import Derived.Lib.MinMax
import Derived.Laws.IdiomCopy
import Derived.Deep.Slices
import Derived.Lib.QuietBelow
import Derived.StillTailTactics
import Derived.BigQuiet
import Derived.Deep.RegionWith
import Derived.OrdersHeld
import Derived.Recover
import Derived.RegionTactic
import Derived.Defers
import Derived.Laws.StructEq
import GoSem.Core.Float
import Derived.Laws.Cover2
import Derived.Laws.FloatArith
import Derived.Laws.Externs
import Derived.Deep.QuietTactic
import Derived.Deep.CutBlock
import Derived.Deep.LoopGhost
import Derived.Test.YtpekceadjcbphaaDoorShelf
import Derived.Lib.AppendIntMem
import Derived.Lib.LaidTab
import Derived.OpenShut
import Derived.Carry
import Derived.LaidMore
import Derived.LaidSub
import Derived.LaidHandle
import Derived.Stop.Joined
import Derived.JoinedOf
import Derived.Test.YtpekceadjcbphaaDoorCards
import Derived.Test.YtpekceadjcbphaaDoorTie
import Derived.SevenTiedAt
import Derived.ChangeMaps5
import Derived.Test.YtpekceadjcbphaaDoorSigShapeQ5
namespace Go.Proofs.YtpekceadjcbphaaDoor.Sg
open Go.RowKit Go.Maps Go.ChangeShapes
open Rt (strV below_gr below_of cell_gr cell_lt strs_one wpList_append_strs)
open Dv (hltD typeD)

theorem tok_fld (t : Tok) (w' : World) : (Instr.field 63 (.agg #[.int .i64 t.k, .string ⟨t.s.toArray⟩, .int .i64 t.at_]) 1).run Tryd.prog w' = .ok (.string ⟨t.s.toArray⟩) w' := by kernel_rfl
theorem stop_ld {P : Program} {ops : Array Oper} {rest : List Oper} {o : Oper} {a : Act} {w : World} {Q : Exit → Act → World → Prop} (ty : TypeId) (x : Operand) (_ : o.op = .load ty x) (h : True → wpList P ops Q (o :: rest) a w) : wpList P ops Q (o :: rest) a w := h trivial
/-- What At gives. -/
def AtG (pl : Plan) (i j : Int) (w : World) (e : Ending) (w' : World) : Prop := ∃ ps ts bs, e = .returned (.tuple #[.agg (symV pl.name ps ts bs (typeT pl i j) (bodyT pl i j) pl.defn), .bool true]) ∧ LiesP w' (Own w.heap.size w') (parsT i j [] pl.pars) ps ∧ LiesP w' (Own w.heap.size w') (typeT pl i j).kids ts ∧ LiesP w' (Own w.heap.size w') (bodyT pl i j).kids bs ∧ (typeT pl i j).fine ∧ (bodyT pl i j).fine ∧ Below w.heap.size w w'
theorem own_alloc_nil (w : World) : w.ownsRow 0 9 1 (.slice none 0 0) 0 [] := ⟨rfl, Or.inl ⟨rfl, rfl⟩⟩
def CallsTerm (c : LC) (l : List UInt8) (w0 : World) : Prop := ∀ (nS : Nat) (sy : Array Value) (tv nv : Value) (q rF : List Tok) (N : Names) (p : List UInt8) (w : World), AS w0 c nS sy tv nv q N w → pieceL l q = some (p, rF) → q.length + N.length ≤ 2000 → (∀ y ∈ N, y.length ≤ 2000) → Calls Tryd.prog 29 #[.pointer (some ⟨c.R, 0, none⟩)] w (LtG c p N nv rF w)
theorem callsTerm_of {c : LC} {l : List UInt8} {w0 : World} {B : Nat} (ht : c.txt = ⟨l.toArray⟩) (hl : l.length ≤ 2000) (hT : TabsR B w0) (hB : B ≤ w0.heap.size) : CallsTerm c l w0 := by
  intro nS sy tv nv q rF N p w h hp hq hN
  have hsz : c.txt.size = l.length := by rw [ht]; simp [ByteArray.size]
  have hld : c.txt.data.toList = l := by rw [ht]
  cases q with
  | nil => cases hp
  | cons t0 r0 =>
    obtain ⟨la, hcl, rfl, hb1, hb2⟩ := pieceL_some hp
    simp only [List.length_cons] at hq
    have := lterm_any c tv nv t0 la r0 rF N w h.a.st hcl (by omega) (B := B) ⟨by have := h.a.h1; omega, by have := h.a.bel.size; omega⟩ (hT.keep (h.a.bel.mono hB)) (by omega) ⟨by omega, fun y hy => by have := hN y hy; omega⟩ hb1 (by omega)
    rw [hld] at this
    exact this
set_option maxHeartbeats 4000000 in
set_option maxRecDepth 20000 in
theorem at_some (n : Nat) (m i j : Int) (w : World) {l : List UInt8} {ts : List Tok} {pl : Plan} (hl : libL[n]? = some l) (hm : m = (n : Int) + 1) (hi : 0 ≤ i ∧ i ≤ 999) (hj : 0 ≤ j ∧ j ≤ 999) {B : Nat} (hT : TabsR B w) (hB : B ≤ w.heap.size) (hlex : lexL l 0 = (ts, none)) (hp : planL l ts = some pl) : Calls Tryd.prog 12 #[.int .i64 m, .int .i64 i, .int .i64 j] w (AtG pl i j w) := by
  obtain ⟨du, hu1, hu2⟩ := under_sym
  have hmem : l ∈ libL := List.mem_of_getElem? hl
  have hlen := lib_len l hmem
  have hn21 : n < 21 := by
    have h := (List.getElem?_eq_some_iff.1 hl).1
    have e : libL.length = 21 := rfl
    omega
  obtain ⟨t0, t1, t2, t3, r, te, r2, r3, rfl, hps, hty, hnm, hdef, hbd, hnb⟩ := planL_some hp
  have hcnt := lexL_few hlex
  have htk := (lexL_bound (l := l) l.length 0 (by omega)).2.1
  rw [hlex] at htk
  have HTK := Lib.hid (show ∀ t ∈ t0 :: t1 :: t2 :: t3 :: r, t.s.length ≤ 2000 from fun t ht => by have := (htk t ht).1; omega)
  have HCNT := Lib.hid (show (t0 :: t1 :: t2 :: t3 :: r).length ≤ 2000 from by omega)
  have HPS := Lib.hid hps
  have HTY := Lib.hid hty
  have HBD := Lib.hid hbd
  have HNB := Lib.hid hnb
  have HNM := Lib.hid hnm
  have HLX := Lib.hid hlex
  have HTT := Lib.hid hT
  have HB0 := Lib.hid hB
  have HLEN := Lib.hid hlen
  have c1 : ¬ m < 1 := by omega
  have c2 : ¬ 21 < m := by omega
  have c3 : ¬ i < 0 := by omega
  have c4 : ¬ 1000 ≤ i := by omega
  have c5 : ¬ j < 0 := by omega
  have c6 : ¬ 1000 ≤ j := by omega
  have hw1 : IntKind.i64.wrap (m - 1) = (n : Int) := by rw [IntWalk.i64_in _ (by omega)]; omega
  have HA := Lib.hid (below_gr ((Below.refl w.heap.size w).alloc (Nat.le_refl _) (.cells zSymA 34)))
  have HZ := Lib.hid (show (w.alloc (.cells zSymA 34)).heap[w.heap.size]? = some (.cells zSymA 34 (0, 0)) from alloc_new _ _)
  have HL := Lib.hid hl
  have HIJ := Lib.hid (show (0 ≤ i ∧ i ≤ 999) ∧ (0 ≤ j ∧ j ≤ 999) from ⟨hi, hj⟩)
  have HDB := Lib.hid (show (t1.s == [100, 101, 102]) = pl.defn by rw [hdef]; by_cases h : t1.s = [100, 101, 102] <;> simp [h])
  clear hl hmem hlen hps hty hnm hdef hbd hnb hcnt htk hlex hT hB hp hi hj hm
  have tfl := tok_fld
  go_enter Tryd.func12, Tryd.ntmps12
  go_wp2_with fail
  refine (lib_any _).mono ?_
  rintro e w1 ⟨g, rfl, hrow, hg1⟩
  have hcl : w1.cell? ⟨g, n, none⟩ = some (.string ⟨l.toArray⟩) := by
    have h := (List.getElem?_eq_some_iff.1 HL.out)
    obtain ⟨h1, h2⟩ := h
    have := hrow n h1
    rw [h2] at this
    exact this
  have HG1 := Lib.hid (HA.out.trans hg1)
  have HR1 := Lib.hid ((hg1.block _ (hltD HZ.out) (by simp)).trans HZ.out)
  clear hrow hg1 HA HZ
  go_wp2_with fail
  refine (lex_any ⟨l.toArray⟩ _ (by simp [ByteArray.size]; have := HLEN.out; omega)).mono ?_
  rintro e w2 ⟨hb2, hx⟩
  rw [show (⟨l.toArray⟩ : ByteArray).data.toList = l from rfl, HLX.out] at hx
  obtain ⟨v, htk, rfl⟩ := hx
  obtain ⟨g0, o0, cap0, rfl, -⟩ := (toks_lies htk).cons
  have hg2 := HG1.out.trans (below_gr hb2)
  have hr2 := (hb2.block _ (hltD HR1.out)).trans HR1.out
  obtain ⟨c, hcR, hct, hci, hcj⟩ : ∃ c : LC, w2.heap.size = c.R ∧ c.txt = ⟨l.toArray⟩ ∧ c.i = i ∧ c.j = j := ⟨⟨w2.heap.size, _, i, j⟩, rfl, rfl, rfl, rfl⟩
  have hbl := ((Below.refl w2.heap.size w2).alloc (Nat.le_refl _) (.cells #[.string ⟨l.toArray⟩, .slice (some ⟨g0, o0, none⟩) (r.length + 1 + 1 + 1 + 1) cap0, .slice none 0 0, .int .i64 i, .int .i64 j] 61))
  have hA0 : A0 w c (.slice (some ⟨g0, o0, none⟩) (r.length + 1 + 1 + 1 + 1) cap0) (.slice none 0 0) (t0 :: t1 :: t2 :: t3 :: r) [] (w2.alloc (.cells #[.string ⟨l.toArray⟩, .slice (some ⟨g0, o0, none⟩) (r.length + 1 + 1 + 1 + 1) cap0, .slice none 0 0, .int .i64 i, .int .i64 j] 61)) := by
    refine ⟨(hbl.block _ (hltD hr2)).trans hr2, ⟨?_, (toks_lies htk).keep fun g cs fz e => (hbl.block g (hltD e)).trans e, own_alloc_nil _⟩, (fun k e => by cases e), below_of (hg2.trans (below_gr hbl)), by have := hltD hr2; omega⟩
    unfold lnO
    rw [← hcR, hct, hci, hcj]
    exact alloc_new _ _
  have HP0 := Lib.hid hA0
  have HCT := Lib.hid (callsTerm_of (c := c) (l := l) (w0 := w) hct HLEN.out HTT.out HB0.out)
  have HCI := Lib.hid (show c.i = i ∧ c.j = j from ⟨hci, hcj⟩)
  clear hA0 hbl hr2 hg2 htk hb2 hct hci hcj hcl HG1 HR1 HTT HL HLX
  go_wp2_with fail
  obtain ⟨V, hV⟩ : ∃ V, V = w2.alloc (.cells #[.string ⟨l.toArray⟩, .slice (some ⟨g0, o0, none⟩) (r.length + 1 + 1 + 1 + 1) cap0, .slice none 0 0, .int .i64 i, .int .i64 j] 61) := ⟨_, rfl⟩
  rw [← hV] at HP0
  rw [← hV]
  clear hV hcR
  refine (ltake_any c _ _ _ _ _ _ HP0.out.st).mono ?_
  rintro e w3 ⟨rfl, ⟨tl1, hs, -⟩, hg⟩
  have HP1 := Lib.hid (HP0.out.gr hs hg)
  clear hs hg
  unfold agT
  go_wp2_with fail
  refine (ltake_any c _ _ _ _ _ _ HP1.out.st).mono ?_
  rintro e w4 ⟨rfl, ⟨tl2, hs, -⟩, hg⟩
  have HP2 := Lib.hid (HP1.out.gr hs hg)
  clear hs hg
  unfold agT
  go_wp2_with fail
  refine (ltake_any c _ _ _ _ _ _ HP2.out.st).mono ?_
  rintro e w5 ⟨rfl, ⟨tl3, hs, -⟩, hg⟩
  have HP3 := Lib.hid (HP2.out.gr hs hg)
  clear hs hg
  unfold agT
  go_wp2_with fail
  rw [HDB.out]
  have hbs := (Below.refl w5.heap.size w5).alloc (Nat.le_refl _) (.cells #[.string ⟨t2.s.toArray⟩, .slice none 0 0, .int .i64 0, .int .i64 0, .int .i64 0, .int .i64 0, .slice none 0 0, .int .i64 0, .int .i64 0, .int .i64 0, .int .i64 0, .slice none 0 0, .bool pl.defn] 34)
  have HS0 := Lib.hid (show AS w c w5.heap.size (symV pl.name (.slice none 0 0) (.slice none 0 0) (.slice none 0 0) Tm.zero Tm.zero pl.defn) tl3 (.slice none 0 0) (t3 :: r) [] (w5.alloc (.cells #[.string ⟨t2.s.toArray⟩, .slice none 0 0, .int .i64 0, .int .i64 0, .int .i64 0, .int .i64 0, .slice none 0 0, .int .i64 0, .int .i64 0, .int .i64 0, .int .i64 0, .slice none 0 0, .bool pl.defn] 34)) from ⟨HP3.out.same (below_gr hbs), by rw [HNM.out]; exact alloc_new _ _, hltD HP3.out.res⟩)
  clear hbs HP0 HP1 HP2 HP3 HDB
  obtain ⟨V, hV⟩ : ∃ V, V = w5.alloc (.cells #[.string ⟨t2.s.toArray⟩, .slice none 0 0, .int .i64 0, .int .i64 0, .int .i64 0, .int .i64 0, .slice none 0 0, .int .i64 0, .int .i64 0, .int .i64 0, .int .i64 0, .slice none 0 0, .bool pl.defn] 34) := ⟨_, rfl⟩
  rw [← hV] at HS0
  rw [← hV]
  clear hV
  obtain ⟨nS, hnS⟩ : ∃ nS, nS = w5.heap.size := ⟨_, rfl⟩
  rw [← hnS] at HS0
  rw [← hnS]
  clear hnS
  refine (ltake_any c _ _ _ _ _ _ HS0.out.a.st).mono ?_
  rintro e w6 ⟨rfl, ⟨tl4, hs, -⟩, hg⟩
  have HS1 := Lib.hid (HS0.out.gr hs hg)
  clear hs hg
  unfold agT
  go_wp2_with fail
  go_loopg [] r.length (fun g wr => ∃ (f : Nat) (q : List Tok) (N : Names) (tl nv psv : Value) (psL : List (Tm × Value)) (rem : List (List UInt8 × List UInt8)), g = q.length ∧ Hid (parsL l f q = some (rem, te :: r2)) ∧ Hid (psL.map (·.1) ++ parsT i j N rem = parsT i j [] pl.pars) ∧ Hid (N ++ rem.map (·.1) = pl.pars.map (·.1)) ∧ Hid (AS w c nS (symV pl.name psv (.slice none 0 0) (.slice none 0 0) Tm.zero Tm.zero pl.defn) tl nv q N wr) ∧ Hid (Made (w.heap.size + 1) wr psv psL) ∧ Hid (q.length + N.length + 4 ≤ 2000 ∧ psL.length + q.length + 4 ≤ 2000 ∧ (∀ y ∈ N, y.length ≤ 2000) ∧ ∀ t ∈ q, t.s.length ≤ 2000))
  case atStart =>
    have hcn := HCNT.out
    simp only [List.length_cons] at hcn
    exact ⟨30, r, [], tl4, _, _, [], pl.pars, rfl, HPS, Lib.hid rfl, Lib.hid rfl, HS1, Lib.hid (made_nil _ _), Lib.hid ⟨by simp; omega, by simp; omega, fun y hy => (by cases hy), fun t ht => HTK.out t (by simp [ht])⟩⟩
  case round =>
    clear HS1 HS0 HPS
    obtain ⟨f, q, N, tl, nv, psv, psL, rem, rfl, HPQ, HPT, HNN, HAS, HMD, HBB⟩ := hrel
    cases f with
    | zero => exact absurd HPQ.out (by simp [parsL])
    | succ f =>
      cases q with
      | nil => exact absurd HPQ.out (by simp [parsL])
      | cons t q =>
        obtain ⟨g1, o1, cap1, rfl, k1, k2, x0, x1, x2, k3, k4⟩ := HAS.out.a.st.tok.cons
        obtain ⟨d0, d1, d2, d3, d4⟩ := HAS.out.a.st.cells
        clear k1 k2 k3 k4 x1 x2 d0 d2 d3 d4
        by_cases hk : t.k = 1
        · have hk1 : ((t.k : Int) == 1) = true := by simp [hk]
          obtain ⟨x, q1, p, cl, q4, ps', rfl, hpc, hrest, rfl⟩ := parsL_go hk HPQ.out
          have HPC := Lib.hid hpc
          have HRE := Lib.hid hrest
          have HLE := Lib.hid (pieceL_len hpc)
          clear HPQ hpc hrest hk
          go_wp2_with fail
          refine (ltake_any c _ _ _ _ _ _ HAS.out.a.st).mono ?_
          rintro e w7 ⟨rfl, ⟨tl7, hs, -⟩, hg⟩
          have HM1 := Lib.hid (made_kt HMD.out (kt_line HAS.out.a.st hg))
          have HA1 := Lib.hid (HAS.out.gr hs hg)
          clear hs hg
          unfold agT
          clear HAS HMD x0 d1 hk1
          go_wp2_with fail
          refine (ltake_any c _ _ _ _ _ _ HA1.out.a.st).mono ?_
          rintro e w8 ⟨rfl, ⟨tl8, hs, -⟩, hg⟩
          have HM2 := Lib.hid (made_kt HM1.out (kt_line HA1.out.a.st hg))
          have HA2 := Lib.hid (HA1.out.gr hs hg)
          clear hs hg
          unfold agT
          clear HA1 HM1
          have HAD := Lib.hid (show AS _ _ _ _ _ _ _ _ w8.drew from HA2.out.same (drew_grw _))
          have HMD := Lib.hid (show Made _ w8.drew _ _ from made_kt HM2.out (kt_none (drew_grw _)))
          have HTERM := Lib.hid (HCT.out nS _ _ _ _ _ _ _ _ HAD.out HPC.out (by have := HBB.out.1; simp only [List.length_cons] at this; omega) HBB.out.2.2.1)
          have y1 : w8.cell? ⟨nS, 1, none⟩ = some psv := by
            have h := HA2.out.sym
            unfold symV at h
            exact (cells13 h).1.2.1
          obtain ⟨i0, hi, hz0, hz1, hz2⟩ := info_parts info_term
          have HI := Lib.hid (And.intro hi (And.intro hz0 (And.intro hz1 hz2)))
          clear hi hz0 hz1 hz2
          go_wp2_with fail
          go_region_law (first
            | (refine step_append_lies _ rfl _ _ 24 rfl (w.heap.size + 1) 26 i0 _ 5 56 (by kernel_rfl) HI.out.1 HI.out.2.1 HI.out.2.2.1 HI.out.2.2.2 rfl (by decide) psv psL.length (cells5 psL) rfl HMA.out.own ⟨w9.heap.size, 0, none⟩ 1 1 (cells5 [(tt, .slice au tt.kids.length cu)]) rfl rfl (news_new _ _ _ _) (one5 _ _) (by decide) (by have := HBB.out.2.1; unfold maxLen; omega) (by have := HBB.out.2.1; omega) (by have := hltD HA3.out.a.res; simp; omega) _ rfl ?_
               intro gq cap3 w10 hown hgrow hat _
               have HM4 := Lib.hid (push_at HMD.out HK9.out HFI.out (hltD HAD.out.a.res) HLP.out _ hown hgrow hat)
               have HA4 := Lib.hid ((HA3.out.same (below_gr ((Below.refl w9.heap.size w9).alloc (Nat.le_refl _) (.cells #[.int .i64 tt.k, .int .i64 tt.i, .int .i64 tt.j, .int .i64 tt.n, .slice au tt.kids.length cu] 26)))).row HMA.out.own hgrow)
               have y2 : w10.cell? ⟨nS, 1, none⟩ = some psv := (by
                 have h := HA4.out.sym
                 unfold symV at h
                 exact (cells13 h).1.2.1)
               have y3 : w10.frozen? ⟨nS, 1, none⟩ = false := Lib.frozen_of_heap HA4.out.sym 1
               clear hown hgrow hat)
            | (go_simp
               go_at_call 29
               ((with_reducible refine Calls.mono HTERM.out ?_)
                rintro e w9 ⟨sv, tl9, rfl, hlp, hfi, hs9, -, hg9⟩
                rw [HCI.out.1, HCI.out.2] at hlp hfi
                rw [HCI.out.1, HCI.out.2]
                obtain ⟨tt, htt⟩ : ∃ tt, outT (readB p N i j) = tt := ⟨_, rfl⟩
                rw [htt] at hlp hfi
                rw [htt]
                have HTX := Lib.hid htt
                have HK9 := Lib.hid (kt_line HAD.out.a.st hg9)
                have HA3 := Lib.hid (HAD.out.gr hs9 hg9)
                have HLP := Lib.hid hlp
                have HFI := Lib.hid hfi
                obtain ⟨au, cu, rfl, -, -⟩ := hlp.out
                have HMA := Lib.hid (made_kt (made_kt HMD.out HK9.out) (kt_none (below_gr ((Below.refl w9.heap.size w9).alloc (Nat.le_refl _) (.cells #[.int .i64 tt.k, .int .i64 tt.i, .int .i64 tt.j, .int .i64 tt.n, .slice au tt.kids.length cu] 26)))))
                have y9 : w9.cell? ⟨nS, 1, none⟩ = some psv := (by
                  have h := HA3.out.sym
                  unfold symV at h
                  exact (cells13 h).1.2.1)
                have hsn : nS < w9.heap.size := hltD HA3.out.sym
                clear hlp hfi hs9 hg9 htt)))
          all_goals
            have hset := HA4.out.set 1 (.slice (some ⟨gq, 0, none⟩) (psL.length + 1) cap3)
            have HA5 := Lib.hid (show AS w c nS (symV pl.name (.slice (some ⟨gq, 0, none⟩) (psL.length + 1) cap3) (.slice none 0 0) (.slice none 0 0) Tm.zero Tm.zero pl.defn) _ _ _ _ _ from hset.1)
            have HM5 := Lib.hid (made_kt HM4.out hset.2)
            clear hset y1 y9 hsn HA2 HAD HMD HM2 HA3 HA4 HM4 HMA HTERM HI HK9
            go_wp2_with fail
            obtain ⟨V, hV⟩ : ∃ V, V = w10.setCell ⟨nS, 1, none⟩ (.slice (some ⟨gq, 0, none⟩) (psL.length + 1) cap3) := ⟨_, rfl⟩
            rw [← hV] at HA5 HM5
            rw [← hV]
            clear hV y2 y3
            refine (ltake_any c _ _ _ _ _ _ HA5.out.a.st).mono ?_
            rintro e w11 ⟨rfl, ⟨tl11, hs, -⟩, hg⟩
            have HM6 := Lib.hid (made_kt HM5.out (kt_line HA5.out.a.st hg))
            have HA6 := Lib.hid (HA5.out.gr hs hg)
            clear hs hg
            unfold agT
            obtain ⟨-, -, d2, -, -⟩ := HA6.out.a.st.cells
            have hrl := HA6.out.a.st.lt
            have hgx := below_gr ((Below.refl w11.heap.size w11).alloc (Nat.le_refl _) (.cells #[.string ⟨x.s.toArray⟩] 9))
            have HAX := Lib.hid (HA6.out.same hgx)
            have HMX := Lib.hid (made_kt HM6.out (kt_none hgx))
            clear hgx HA5 HM5
            go_wp2_with (at_builtin
                         refine wpList_append_strs rfl (.tmp 82) (.tmp 84) rfl nv N.length (N.map strV) rfl HAX.out.a.st.nm ⟨w11.heap.size, 0, none⟩ 1 1 [strV x.s] rfl rfl (World.news_of_block (alloc_new w11 _)) (strs_one [x.s]) (by have := HBB.out.1; omega) ?_
                         intro nv' w12 hown hgn hnil hat
                         obtain ⟨gn, cn, rfl⟩ : ∃ gn cn, nv' = .slice (some ⟨gn, 0, none⟩) (N.length + 1) cn := (by
                           rcases hown.2 with ⟨-, e⟩ | ⟨gn, cn, cur, hv, -⟩
                           · omega
                           · exact ⟨gn, cn, hv⟩)
                         have hnm := HAX.out.name hgn hown hat
                         have hln := HAX.out.line hgn
                         have HA7 := Lib.hid hnm.1
                         have HM7 := Lib.hid (made_kt HMX.out hnm.2)
                         have z1 := hln.1
                         have z2 := hln.2
                         clear hnm hln hown hgn hnil hat)
            go_roundg q4.length
            case measure => have := HLE.out.1; simp only [List.length_cons] at this ⊢; omega
            case rel =>
              have hb := HBB.out
              have hle := HLE.out
              simp only [List.length_cons] at hb hle
              exact ⟨f, q4, N ++ [x.s], _, _, _, psL ++ [(tt, .slice au tt.kids.length cu)], ps', rfl, HRE, Lib.hid (by have h := HPT.out; simp only [parsT, HTX.out] at h; rw [← h]; simp), Lib.hid (by have h := HNN.out; simp only [List.map_cons] at h; rw [← h]; simp), HA7, by simpa using HM7, Lib.hid ⟨by simp only [List.length_append, List.length_cons, List.length_nil]; omega, by simp only [List.length_append, List.length_cons, List.length_nil]; omega, fun y hy => by
                rcases List.mem_append.1 hy with hy | hy
                · exact hb.2.2.1 y hy
                · rw [List.mem_singleton.1 hy]; exact hb.2.2.2 x (by simp), fun y hy => hb.2.2.2 y (by have := hle.2 y (List.mem_cons_of_mem _ hy); simp [this])⟩⟩
        · have hk1 : ((t.k : Int) == 1) = false := by simp; omega
          obtain ⟨rfl, hq⟩ := parsL_stop hk HPQ.out
          obtain ⟨rfl, rfl⟩ := List.cons.inj hq
          have hps : psL.map (·.1) = parsT i j [] pl.pars := by have h := HPT.out; simpa [parsT] using h
          have hN : N = pl.pars.map (·.1) := by have h := HNN.out; simpa using h
          subst hN
          have HPSL := Lib.hid hps
          obtain ⟨ap, np, cp, rfl⟩ : ∃ ap np cp, psv = .slice ap np cp := by obtain ⟨ap, cp, e, -⟩ := (made_lies HMD.out).out; exact ⟨ap, _, cp, e⟩
          clear hq hk HPQ HPT HNN hps
          go_wp2_with fail
          refine (ltake_any c _ _ _ _ _ _ HAS.out.a.st).mono ?_
          rintro e w13 ⟨rfl, ⟨tl13, hs, -⟩, hg⟩
          have HN1 := Lib.hid (made_kt HMD.out (kt_line HAS.out.a.st hg))
          have HB1 := Lib.hid (HAS.out.gr hs hg)
          clear hs hg
          unfold agT
          clear HAS HMD x0 d1 hk1
          have HTE := Lib.hid (HCT.out nS _ _ _ _ _ _ _ _ HB1.out HTY.out (by have := HBB.out.1; simp only [List.length_cons] at this; omega) HBB.out.2.2.1)
          go_wp2_with fail
          refine HTE.out.mono ?_
          rintro e w14 ⟨sv, tl14, rfl, hlp, hfi, hs14, -, hg14⟩
          rw [HCI.out.1, HCI.out.2] at hlp hfi
          rw [HCI.out.1, HCI.out.2]
          obtain ⟨ty, hty⟩ : ∃ ty, typeT pl i j = ty := ⟨_, rfl⟩
          rw [show outT (readB pl.type (pl.pars.map (·.1)) i j) = ty from hty] at hlp hfi
          rw [show outT (readB pl.type (pl.pars.map (·.1)) i j) = ty from hty]
          have HTYE := Lib.hid hty
          have HB2 := Lib.hid (HB1.out.gr hs14 hg14)
          have HN2 := Lib.hid (made_kt HN1.out (kt_line HB1.out.a.st hg14))
          have HLT := Lib.hid (hlp.from (B' := w.heap.size) (Nat.le_of_lt (hltD HB1.out.a.res)))
          have HFT := Lib.hid hfi
          obtain ⟨au, cu, rfl, -, -⟩ := hlp.out
          have hsy := HB2.out.sym
          unfold symV at hsy
          obtain ⟨⟨p0, p1, p2, p3, p4, p5, p6, p7, p8, p9, p10, p11, p12⟩, ⟨e0, e1, e2, e3, e4, e5, e6, e7, e8, e9, e10, e11, e12⟩⟩ := cells13 hsy
          clear hlp hfi hs14 hg14 hty hsy HTE HB1 HN1 p0 p1 p7 p8 p9 p10 p11 p12 e0 e1 e7 e8 e9 e10 e11 e12
          unfold tv
          have hs5 := HB2.out.set5 2 3 4 5 6 (.int .i64 ty.k) (.int .i64 ty.i) (.int .i64 ty.j) (.int .i64 ty.n) (.slice au ty.kids.length cu)
          have HB3 := Lib.hid (show AS w c nS (symV pl.name (.slice ap np cp) (.slice au ty.kids.length cu) (.slice none 0 0) ty Tm.zero pl.defn) _ _ _ _ _ from hs5.1)
          have HN3 := Lib.hid (made_kt HN2.out hs5.2)
          have HLT3 := Lib.hid (lies_kt HLT.out hs5.2)
          clear hs5 HN2 HLT
          go_upto_region 19 with fail
          obtain ⟨V, hV⟩ : ∃ V, V = ((((w14.setCell ⟨nS, 2, none⟩ (.int .i64 ty.k)).setCell ⟨nS, 3, none⟩ (.int .i64 ty.i)).setCell ⟨nS, 4, none⟩ (.int .i64 ty.j)).setCell ⟨nS, 5, none⟩ (.int .i64 ty.n)).setCell ⟨nS, 6, none⟩ (.slice au ty.kids.length cu) := ⟨_, rfl⟩
          rw [← hV] at HB3 HN3 HLT3
          rw [← hV]
          clear hV p2 p3 p4 p5 p6 e2 e3 e4 e5 e6 HB2
          have y12 : V.cell? ⟨nS, 12, none⟩ = some (.bool pl.defn) := by
            have h := HB3.out.sym
            unfold symV at h
            exact (cells13 h).1.2.2.2.2.2.2.2.2.2.2.2.2
          obtain ⟨dd, hdd⟩ : ∃ dd, pl.defn = dd := ⟨_, rfl⟩
          rw [hdd] at HB3 y12
          (try rw [hdd])
          have HDD := Lib.hid hdd
          rcases dd with _ | _
          · have HBO := Lib.hid (show bodyT pl i j = Tm.zero from by unfold bodyT; rw [HNB.out HDD.out])
            clear hdd
            go_upto_region 21 with fail
            have hsy := HB3.out.sym
            have hrs := HB3.out.a.res
            unfold symV at hsy hrs
            have HSYR := Lib.hid hsy
            obtain ⟨⟨p0, p1, p2, p3, p4, p5, p6, p7, p8, p9, p10, p11, p12⟩, -⟩ := cells13 hsy
            obtain ⟨⟨z0, z1, z2, z3, z4, z5, z6, z7, z8, z9, z10, z11, z12⟩, ⟨e0, e1, e2, e3, e4, e5, e6, e7, e8, e9, e10, e11, e12⟩⟩ := cells13 hrs
            have HRS := Lib.hid hrs
            clear hsy hrs
            have HKT := Lib.hid (set13_kt (T := 26) HRS.out (by decide) (.string ⟨pl.name.toArray⟩) (.slice ap np cp) (.int .i64 ty.k) (.int .i64 ty.i) (.int .i64 ty.j) (.int .i64 ty.n) (.slice au ty.kids.length cu) (.int .i64 Tm.zero.k) (.int .i64 Tm.zero.i) (.int .i64 Tm.zero.j) (.int .i64 Tm.zero.n) (.slice none 0 0) (.bool false))
            have HBL := Lib.hid (set13_below HB3.out.a.bel (Nat.le_refl _) (.string ⟨pl.name.toArray⟩) (.slice ap np cp) (.int .i64 ty.k) (.int .i64 ty.i) (.int .i64 ty.j) (.int .i64 ty.n) (.slice au ty.kids.length cu) (.int .i64 Tm.zero.k) (.int .i64 Tm.zero.i) (.int .i64 Tm.zero.j) (.int .i64 Tm.zero.n) (.slice none 0 0) (.bool false))
            have hst := set13_heap HRS.out (.string ⟨pl.name.toArray⟩) (.slice ap np cp) (.int .i64 ty.k) (.int .i64 ty.i) (.int .i64 ty.j) (.int .i64 ty.n) (.slice au ty.kids.length cu) (.int .i64 Tm.zero.k) (.int .i64 Tm.zero.i) (.int .i64 Tm.zero.j) (.int .i64 Tm.zero.n) (.slice none 0 0) (.bool false)
            have hml := made_lies HN3.out
            rw [HPSL.out] at hml
            have HML := Lib.hid (hml.from (B' := w.heap.size) (Nat.le_succ _))
            have HST := Lib.hid hst
            clear hst hml
            go_wp2_with (refine stop_ld 34 (.tmp 13) rfl ?_)
            intro _
            refine wpList_load_row rfl 34 (.tmp 13) rfl nS rfl 34 _ (0, 0) du HSYR.out hu1 (by cases du <;> first | rfl | exact hu2) size_sym ?_
            go_wp2
            (try simp only [Exit.inBlock, Exit.then])
            refine bodyPost_ret (results_cell_tmp rfl _ _ w.heap.size _ _ _ du rfl HST.out hu1 (by cases du <;> first | rfl | exact hu2) size_sym) rfl ?_
            exact ⟨.slice ap np cp, .slice au ty.kids.length cu, .slice none 0 0, by rw [HTYE.out, HBO.out, HDD.out]; rfl, lies_kt HML.out HKT.out, by rw [HTYE.out]; exact lies_kt HLT3.out HKT.out, by rw [HBO.out]; exact liesP_nil _ _, by rw [HTYE.out]; exact HFT.out, by rw [HBO.out]; exact zero_fine, HBL.out⟩
          · obtain ⟨b, r5, hpb, hbe⟩ := HBD.out hdd
            have HPL := Lib.hid (pieceL_len HTY.out)
            have HTB := Lib.hid (HCT.out nS _ _ _ _ _ _ _ _ HB3.out hpb (by have h1 := HBB.out.1; have h2 := HPL.out.1; simp only [List.length_cons] at h1; omega) HBB.out.2.2.1)
            clear hdd hpb
            go_wp2_with fail
            refine HTB.out.mono ?_
            rintro e w16 ⟨sv, tl16, rfl, hlp, hfi, hs16, -, hg16⟩
            rw [HCI.out.1, HCI.out.2] at hlp hfi
            rw [HCI.out.1, HCI.out.2]
            have hbo : bodyT pl i j = outT (readB b (pl.pars.map (·.1)) i j) := by unfold bodyT; rw [hbe]
            obtain ⟨bo, hbo2⟩ : ∃ bo, outT (readB b (pl.pars.map (·.1)) i j) = bo := ⟨_, rfl⟩
            rw [hbo2] at hlp hfi hbo
            rw [hbo2]
            have HBO := Lib.hid hbo
            have hkl := kt_line HB3.out.a.st hg16
            have HB5 := Lib.hid (HB3.out.gr hs16 hg16)
            have HN5 := Lib.hid (made_kt HN3.out hkl)
            have HLT5 := Lib.hid (lies_kt HLT3.out hkl)
            have HLB := Lib.hid (hlp.from (B' := w.heap.size) (Nat.le_of_lt (hltD HB3.out.a.res)))
            have HFB := Lib.hid hfi
            obtain ⟨ab, cb, rfl, -, -⟩ := hlp.out
            have hsy := HB5.out.sym
            unfold symV at hsy
            obtain ⟨⟨p0, p1, p2, p3, p4, p5, p6, p7, p8, p9, p10, p11, p12⟩, ⟨e0, e1, e2, e3, e4, e5, e6, e7, e8, e9, e10, e11, e12⟩⟩ := cells13 hsy
            clear hlp hfi hs16 hg16 hbo hbo2 hbe hsy hkl HTB p0 p1 p2 p3 p4 p5 p6 p12 e0 e1 e2 e3 e4 e5 e6 e12 y12
            unfold tv
            have hs5 := HB5.out.set5 7 8 9 10 11 (.int .i64 bo.k) (.int .i64 bo.i) (.int .i64 bo.j) (.int .i64 bo.n) (.slice ab bo.kids.length cb)
            have HB6 := Lib.hid (show AS w c nS (symV pl.name (.slice ap np cp) (.slice au ty.kids.length cu) (.slice ab bo.kids.length cb) ty bo true) _ _ _ _ _ from hs5.1)
            have HN6 := Lib.hid (made_kt HN5.out hs5.2)
            have HLT6 := Lib.hid (lies_kt HLT5.out hs5.2)
            have HLB6 := Lib.hid (lies_kt HLB.out hs5.2)
            clear hs5 HN5 HLT5 HLB HB3 HN3 HLT3
            go_upto_region 21 with fail
            obtain ⟨U, hU⟩ : ∃ U, U = ((((w16.setCell ⟨nS, 7, none⟩ (.int .i64 bo.k)).setCell ⟨nS, 8, none⟩ (.int .i64 bo.i)).setCell ⟨nS, 9, none⟩ (.int .i64 bo.j)).setCell ⟨nS, 10, none⟩ (.int .i64 bo.n)).setCell ⟨nS, 11, none⟩ (.slice ab bo.kids.length cb) := ⟨_, rfl⟩
            rw [← hU] at HB6 HN6 HLT6 HLB6
            rw [← hU]
            clear hU p7 p8 p9 p10 p11 e7 e8 e9 e10 e11 HB5
            have hsy := HB6.out.sym
            have hrs := HB6.out.a.res
            unfold symV at hsy hrs
            have HSYR := Lib.hid hsy
            obtain ⟨⟨p0, p1, p2, p3, p4, p5, p6, p7, p8, p9, p10, p11, p12⟩, -⟩ := cells13 hsy
            obtain ⟨⟨z0, z1, z2, z3, z4, z5, z6, z7, z8, z9, z10, z11, z12⟩, ⟨e0, e1, e2, e3, e4, e5, e6, e7, e8, e9, e10, e11, e12⟩⟩ := cells13 hrs
            have HRS := Lib.hid hrs
            clear hsy hrs
            have HKT := Lib.hid (set13_kt (T := 26) HRS.out (by decide) (.string ⟨pl.name.toArray⟩) (.slice ap np cp) (.int .i64 ty.k) (.int .i64 ty.i) (.int .i64 ty.j) (.int .i64 ty.n) (.slice au ty.kids.length cu) (.int .i64 bo.k) (.int .i64 bo.i) (.int .i64 bo.j) (.int .i64 bo.n) (.slice ab bo.kids.length cb) (.bool true))
            have HBL := Lib.hid (set13_below HB6.out.a.bel (Nat.le_refl _) (.string ⟨pl.name.toArray⟩) (.slice ap np cp) (.int .i64 ty.k) (.int .i64 ty.i) (.int .i64 ty.j) (.int .i64 ty.n) (.slice au ty.kids.length cu) (.int .i64 bo.k) (.int .i64 bo.i) (.int .i64 bo.j) (.int .i64 bo.n) (.slice ab bo.kids.length cb) (.bool true))
            have hst := set13_heap HRS.out (.string ⟨pl.name.toArray⟩) (.slice ap np cp) (.int .i64 ty.k) (.int .i64 ty.i) (.int .i64 ty.j) (.int .i64 ty.n) (.slice au ty.kids.length cu) (.int .i64 bo.k) (.int .i64 bo.i) (.int .i64 bo.j) (.int .i64 bo.n) (.slice ab bo.kids.length cb) (.bool true)
            have hml := made_lies HN6.out
            rw [HPSL.out] at hml
            have HML := Lib.hid (hml.from (B' := w.heap.size) (Nat.le_succ _))
            have HST := Lib.hid hst
            clear hst hml
            go_wp2_with (refine stop_ld 34 (.tmp 13) rfl ?_)
            intro _
            refine wpList_load_row rfl 34 (.tmp 13) rfl nS rfl 34 _ (0, 0) du HSYR.out hu1 (by cases du <;> first | rfl | exact hu2) size_sym ?_
            go_wp2
            (try simp only [Exit.inBlock, Exit.then])
            refine bodyPost_ret (results_cell_tmp rfl _ _ w.heap.size _ _ _ du rfl HST.out hu1 (by cases du <;> first | rfl | exact hu2) size_sym) rfl ?_
            exact ⟨.slice ap np cp, .slice au ty.kids.length cu, .slice ab bo.kids.length cb, by rw [HTYE.out, HBO.out, HDD.out]; rfl, lies_kt HML.out HKT.out, by rw [HTYE.out]; exact lies_kt HLT6.out HKT.out, by rw [HBO.out]; exact lies_kt HLB6.out HKT.out, by rw [HTYE.out]; exact HFT.out, by rw [HBO.out]; exact HFB.out, HBL.out⟩
end Go.Proofs.YtpekceadjcbphaaDoor.Sg

namespace Go.Proofs.YtpekceadjcbphaaDoor.Sg
open Go.RowKit
open Rt (below_gr below_of)

/-- A list of terms lies behind a slice of its own. -/
theorem liesP_slice {w : World} {P : Nat → Prop} {l : List Tm} {v : Value} (h : LiesP w P l v) : ∃ a n c, v = .slice a n c ∧ n = l.length := by
  obtain ⟨a, c, e, -, -⟩ := h.out
  exact ⟨a, _, c, e, rfl⟩
theorem plan6 : ∃ ts pl, lexL lib6 0 = (ts, none) ∧ planL lib6 ts = some pl ∧ planOk pl = true ∧ pl.name = [104, 101, 116] ∧ pl.defn = true ∧ pl.pars.length = 4 ∧ (typeT pl 2 0).k = 1 ∧ (typeT pl 2 0).i = 3 := by
  obtain ⟨ts, pl, h1, h2, h3⟩ := lib_plan (lib_ok lib6 (by simp [libL]))
  have h4 : (lexF (lib6.length + 1) lib6 0).1 = ts := by rw [← lexL_F, h1]
  exact ⟨ts, pl, h1, h2, h3, wk17_plan (by rw [h4]; exact h2)⟩
set_option maxHeartbeats 2000000 in
set_option maxRecDepth 20000 in
theorem wakes17_any {B : Nat} (w : World) (hT : TabsR B w) (hB : B ≤ w.heap.size) : Calls Tryd.prog 15 #[] w fun e w' => e = .returned (.bool true) ∧ Below w.heap.size w w' := by
  obtain ⟨ts, pl, h1, h2, -, h4, h5, h6, h7, h8⟩ := plan6
  have HAT := Lib.hid (at_some 5 6 2 0 w (l := lib6) (pl := pl) rfl (by decide) (by decide) (by decide) hT hB h1 h2)
  have HNM := Lib.hid h4
  have HDF := Lib.hid h5
  have HLN := Lib.hid h6
  have hk1 : ((typeT pl 2 0).k == 1) = true := by rw [h7]; rfl
  have hi1 : ((typeT pl 2 0).i == 3) = true := by rw [h8]; rfl
  clear h1 h2 h4 h5 h6 h7 h8 hT
  go_enter Tryd.func15, Tryd.ntmps15
  go_wp2_with fail
  refine HAT.out.mono ?_
  rintro e w1 ⟨ps, tsv, bsv, rfl, hps, hts, hbs, -, -, hb1⟩
  obtain ⟨ap, np, cp, rfl, hnp⟩ := liesP_slice hps
  obtain ⟨au, nu, cu, rfl, -⟩ := liesP_slice hts
  obtain ⟨ab, nb, cb, rfl, -⟩ := liesP_slice hbs
  rw [parsT_length, HLN.out] at hnp
  subst hnp
  have hsy : (w1.alloc (.cells (symV pl.name (.slice ap 4 cp) (.slice au nu cu) (.slice ab nb cb) (typeT pl 2 0) (bodyT pl 2 0) pl.defn) 34)).heap[w1.heap.size]? = some _ := alloc_new _ _
  have hb2 := hb1.alloc hb1.size (.cells (symV pl.name (.slice ap 4 cp) (.slice au nu cu) (.slice ab nb cb) (typeT pl 2 0) (bodyT pl 2 0) pl.defn) 34)
  have HB2 := Lib.hid hb2
  have HSY := Lib.hid hsy
  clear hps hts hbs hb1 hb2 hsy HAT
  unfold symV
  go_wp2_with fail
  rw [HNM.out, HDF.out] at HSY HB2
  rw [HNM.out, HDF.out]
  refine (at_none 22 0 0 _ (Or.inr (Or.inl (by decide)))).mono ?_
  rintro e w3 ⟨rfl, hb3⟩
  have hsy := (hb3.block _ (Array.getElem?_eq_some_iff.1 HSY.out).1).trans HSY.out
  have HB3 := Lib.hid (HB2.out.trans (hb3.mono HB2.out.size))
  have HB4 := Lib.hid (HB3.out.alloc HB3.out.size (.cells (symV [] (.slice none 0 0) (.slice none 0 0) (.slice none 0 0) Tm.zero Tm.zero false) 34))
  have hs4 := (Below.heap_alloc w3 (.cells (symV [] (.slice none 0 0) (.slice none 0 0) (.slice none 0 0) Tm.zero Tm.zero false) 34) _ (Array.getElem?_eq_some_iff.1 hsy).1).trans hsy
  have hlt : w1.heap.size < w3.heap.size := (Array.getElem?_eq_some_iff.1 hsy).1
  unfold symV at hsy hs4
  obtain ⟨⟨p0, p1, p2, p3, -, -, -, -, -, -, -, -, p12⟩, -⟩ := cells13 hsy
  obtain ⟨⟨q0, q1, q2, q3, -, -, -, -, -, -, -, -, q12⟩, -⟩ := cells13 hs4
  unfold noSym symV
  clear hsy hs4 hb3
  go_wp2
  go_ret
  exact ⟨rfl, HB4.out⟩
end Go.Proofs.YtpekceadjcbphaaDoor.Sg

namespace Go.Proofs.YtpekceadjcbphaaDoor
open Go.RowKit

set_option maxHeartbeats 1000000 in
theorem refnode_any (t : Tm) (w : World) (s : Value) (hl : Lies w t.kids s) : Calls Tryd.prog 33 #[tv t s] w fun e w' => e = .returned (.bool t.nodeB) ∧ Below w.heap.size w w' := by
  obtain ⟨a, cap, S, hs, hc, hm, -⟩ := hl.out
  subst hs
  unfold maxLen at hm
  have HB := (Below.refl (w.heap.size + 1) (w.alloc (.cells #[.int .i64 t.k, .int .i64 t.i, .int .i64 t.j, .int .i64 t.n, .slice a t.kids.length cap] 26)))
  have HBX := Lib.hid (fun (wr : World) => box_cells (w := w) (wr := wr) (v0 := .int .i64 t.k) (v1 := .int .i64 t.i) (v2 := .int .i64 t.j) (v3 := .int .i64 t.n) (v4 := .slice a t.kids.length cap) (T := 26))
  clear hl
  unfold tv
  go_enter Tryd.func33, Tryd.ntmps33
  cases h3 : ((t.kids.length : Int) == kidsN t.k t.n)
  · go_wp2
    go_region_with (go_at_call 16; refine (refkids_any _ _ _).mono ?_; rintro e w1 ⟨rfl, hb1⟩; have HB2 := below_call HB.drew hb1 (by simp); obtain ⟨d0, d1, d2, d3, d4⟩ := HBX.out _ HB2; clear hb1)
    all_goals
      go_wp2
      go_ret
      exact ⟨ret_bool (by simp only [Tm.nodeB, h3, Bool.false_and]), below_of_box HB2⟩
  · go_wp2
    go_region_held3 (fun w' => w'.cell? ⟨w.heap.size, 0, none⟩ = some (.int .i64 t.k) ∧ w'.cell? ⟨w.heap.size, 1, none⟩ = some (.int .i64 t.i) ∧ w'.cell? ⟨w.heap.size, 2, none⟩ = some (.int .i64 t.j) ∧ w'.cell? ⟨w.heap.size, 3, none⟩ = some (.int .i64 t.n) ∧ w'.cell? ⟨w.heap.size, 4, none⟩ = some (.slice a t.kids.length cap)) (go_keep)
      (first | (go_at_call 16; refine (refkids_any _ _ _).mono ?_; rintro e w1 ⟨rfl, hb1⟩; have HB2 := below_call HB.drew hb1 (by simp); obtain ⟨d0, d1, d2, d3, d4⟩ := HBX.out _ HB2; clear hb1) | (go_at_call 49; refine (refnumbers_any t _ _).mono ?_; rintro e w2 ⟨rfl, hb2⟩; have HB3 := below_call HB2 hb2 (by have := HB2.size; simpa using this); obtain ⟨y0, y1, y2, y3, y4⟩ := HBX.out _ HB3; clear hb2))
    go_wp2
    go_ret
    exact ⟨ret_bool (by simp only [Tm.nodeB, h3, Bool.true_and]), below_of_box HB3⟩

set_option maxHeartbeats 1000000 in
theorem refplain_any (t : Tm) : ∀ (w : World) (s : Value), Lies w t.kids s → Calls Tryd.prog 18 #[tv t s] w fun e w' => e = .returned (.bool t.plainB) ∧ Below w.heap.size w w' := by
  induction t using Tm.ind with
  | h t ih =>
    intro w s hl
    obtain ⟨a, cap, S, rfl, hc, hm, hf, hn, hk⟩ := hl.out
    unfold tv
    unfold maxLen at hm
    have HL := Lib.hid ((hl.keep (w' := w.alloc (.cells #[.int .i64 t.k, .int .i64 t.i, .int .i64 t.j, .int .i64 t.n, .slice a t.kids.length cap] 26)) ((Below.refl _ _).alloc (Nat.le_refl _) _)))
    have HP := Lib.hid (t.plainB_eq)
    have IH := Lib.hid ih
    have HN := Lib.hid hn
    have HK := Lib.hid hk
    have HBX := Lib.hid (fun (wr : World) => box_cells (w := w) (wr := wr) (v0 := .int .i64 t.k) (v1 := .int .i64 t.i) (v2 := .int .i64 t.j) (v3 := .int .i64 t.n) (v4 := .slice a t.kids.length cap) (T := 26))
    clear ih hn hk hf hl
    by_cases hkind : t.k = 1 ∨ t.k = 2 ∨ (13 ≤ t.k ∧ t.k ≤ 23)
    rotate_left
    · have h1 : (t.k == 1) = false := by simp; omega
      have h2 : (t.k == 2) = false := by simp; omega
      have h5 : t.plainB = false := by rw [HP.out, h1, h2]; simp; omega
      have H5 := Lib.hid h5
      clear h5
      have h1' : (t.k != 1) = true := by simp; omega
      have h2' : (t.k != 2) = true := by simp; omega
      have h3 : t.k < 13 ∨ 23 < t.k := by omega
      rcases h3 with h3 | h3
      all_goals
        go_enter Tryd.func18, Tryd.ntmps18
        go_wp2
        go_ret
        exact ⟨ret_bool H5.out.symm, (Below.refl _ _).alloc (Nat.le_refl _) _⟩
    have hkb : (t.k == 1 || (t.k == 2 || (decide (13 ≤ t.k) && decide (t.k ≤ 23)))) = true := by simp; omega
    have HP2 : Hid (t.plainB = (t.nodeB && plains t.kids)) := by have := HP.out; rw [hkb, Bool.true_and] at this; exact this
    clear hkb
    have hk3 : t.k = 1 ∨ t.k = 2 ∨ (¬ t.k = 1 ∧ ¬ t.k = 2 ∧ 13 ≤ t.k ∧ t.k ≤ 23) := by omega
    have hb3 : ((t.k != 1) = false) ∨ ((t.k != 1) = true ∧ (t.k != 2) = false) ∨ ((t.k != 1) = true ∧ (t.k != 2) = true ∧ 13 ≤ t.k ∧ t.k ≤ 23) := by
      rcases hk3 with h | h | h
      · left; simp [h]
      · right; left; simp [h]
      · right; right; simp; omega
    clear hk3 hkind
    cases hn : t.nodeB with
    | false =>
      have h5 : t.plainB = false := by rw [HP2.out, hn]; rfl
      have H5 := Lib.hid h5
      have HNN := Lib.hid hn
      clear h5 hn
      rcases hb3 with h1 | ⟨h1, h2⟩ | ⟨h1, h2, h3, h4⟩
      all_goals
        go_enter Tryd.func18, Tryd.ntmps18
        go_wp2_with fail
        refine (refnode_any t _ _ HL.out).mono ?_
        rintro e w1 ⟨rfl, hb'⟩
        have HB2 := below_call (Below.refl (w.heap.size + 1) (w.alloc (.cells #[.int .i64 t.k, .int .i64 t.i, .int .i64 t.j, .int .i64 t.n, .slice a t.kids.length cap] 26))) hb' (by simp)
        obtain ⟨d0, d1, d2, d3, d4⟩ := HBX.out _ HB2
        clear hb'
        rw [HNN.out]
        go_wp2
        go_ret
        exact ⟨ret_bool H5.out.symm, below_of_box HB2⟩
    | true =>
      have HNN := Lib.hid hn
      clear hn
      rcases hb3 with h1 | ⟨h1, h2⟩ | ⟨h1, h2, h3, h4⟩
      all_goals
        go_enter Tryd.func18, Tryd.ntmps18
        go_wp2_with fail
        refine (refnode_any t _ _ HL.out).mono ?_
        rintro e w1 ⟨rfl, hb'⟩
        have HB2 := below_call (Below.refl (w.heap.size + 1) (w.alloc (.cells #[.int .i64 t.k, .int .i64 t.i, .int .i64 t.j, .int .i64 t.n, .slice a t.kids.length cap] 26))) hb' (by simp)
        obtain ⟨d0, d1, d2, d3, d4⟩ := HBX.out _ HB2
        clear hb'
        rw [HNN.out]
        go_wp2_with fail
        go_loopw [3] (fun iv wr => ∃ k : Nat, k ≤ t.kids.length ∧ iv = .int .i64 k ∧ Hid (plains (t.kids.take k) = true) ∧ Below (w.heap.size + 1) (w.alloc (.cells #[.int .i64 t.k, .int .i64 t.i, .int .i64 t.j, .int .i64 t.n, .slice a t.kids.length cap] 26)) wr) (fun iv _ => t.kids.length - (intOf iv).toNat)
        case atStart => exact ⟨0, Nat.zero_le _, rfl, by simp [Hid, plains], HB2⟩
        case round =>
          obtain ⟨k, hk, rfl, hgood, hb⟩ := hrel
          obtain ⟨d0, d1, d2, d3, d4⟩ := HBX.out _ hb
          have hb0 := below_of_box hb
          by_cases hlt : k < t.kids.length
          · obtain ⟨b, o, rfl, hx⟩ := HN.out k hlt
            have hy := hx.below hb0 hx.lt
            obtain ⟨c0, c1, c2, c3, c4⟩ := hy
            have hq := HK.out k hlt
            obtain ⟨a', cap', S', hS, -⟩ := hq.out
            rw [hS] at c4 hq
            have HQ := Lib.hid (hq.keep hb0)
            clear hS hq
            have HM := Lib.hid (List.getElem_mem hlt)
            have HT := Lib.hid (plains_take t.kids k hlt)
            go_wp2_with fail
            refine (IH.out _ HM.out _ _ HQ.out).mono ?_
            rintro e w2 ⟨rfl, hb'⟩
            have HB3 := below_call hb hb' (by have := hb.size; simpa using this)
            obtain ⟨x0, x1, x2, x3, x4⟩ := HBX.out _ HB3
            clear hb' hb d0 d1 d2 d3 d4 hb0 c0 c1 c2 c3 c4
            cases hp : (t.kids[k]).plainB
            · go_wp2
              go_ret
              exact ⟨ret_bool (by rw [HP2.out, plains_of t.kids k hlt hp, Bool.and_false]), below_of_box HB3⟩
            · go_wp2
              go_roundw
              case rel => exact ⟨k + 1, by omega, by go_num, by show _ = true; rw [HT.out, hgood.out, hp]; rfl, HB3⟩
              case measure => simp [intOf]; omega
          · have : k = t.kids.length := by omega
            subst this
            go_wp2
            go_ret
            exact ⟨ret_bool (by have hg := hgood.out; rw [List.take_length] at hg; rw [HP2.out, HNN.out, hg]; rfl), hb0⟩
end Go.Proofs.YtpekceadjcbphaaDoor

namespace Go.Proofs.YtpekceadjcbphaaDoor
open Go.RowKit

set_option maxHeartbeats 1000000 in
theorem refmarked_any (t : Tm) : ∀ (w : World) (s : Value), Lies w t.kids s → Calls Tryd.prog 50 #[tv t s] w fun e w' => e = .returned (.bool t.markedB) ∧ Below w.heap.size w w' := by
  induction t using Tm.ind with
  | h t ih =>
    intro w s hl
    obtain ⟨a, cap, S, rfl, hc, hm, hf, hn, hk⟩ := hl.out
    unfold tv
    unfold maxLen at hm
    have HL := Lib.hid ((hl.keep (w' := w.alloc (.cells #[.int .i64 t.k, .int .i64 t.i, .int .i64 t.j, .int .i64 t.n, .slice a t.kids.length cap] 26)) ((Below.refl _ _).alloc (Nat.le_refl _) _)))
    have HP := Lib.hid (t.markedB_eq)
    have IH := Lib.hid ih
    have HN := Lib.hid hn
    have HK := Lib.hid hk
    have HBX := Lib.hid (fun (wr : World) => box_cells (w := w) (wr := wr) (v0 := .int .i64 t.k) (v1 := .int .i64 t.i) (v2 := .int .i64 t.j) (v3 := .int .i64 t.n) (v4 := .slice a t.kids.length cap) (T := 26))
    clear ih hn hk hf hl
    by_cases h1 : t.k < 1
    · have H5 : Hid (t.markedB = false) := by show _ = _; rw [HP.out]; simp; omega
      go_enter Tryd.func50, Tryd.ntmps50
      go_wp2
      go_ret
      exact ⟨ret_bool H5.out.symm, (Below.refl _ _).alloc (Nat.le_refl _) _⟩
    by_cases h2 : 12 < t.k
    · have H5 : Hid (t.markedB = false) := by show _ = _; rw [HP.out]; simp; omega
      go_enter Tryd.func50, Tryd.ntmps50
      go_wp2
      go_ret
      exact ⟨ret_bool H5.out.symm, (Below.refl _ _).alloc (Nat.le_refl _) _⟩
    have hkb : (decide (1 ≤ t.k) && decide (t.k ≤ 12)) = true := by simp; omega
    have HP2 : Hid (t.markedB = (t.nodeB && markeds (t.k == 12) 0 t.kids)) := by have := HP.out; rw [hkb, Bool.true_and] at this; exact this
    clear hkb
    cases hn : t.nodeB with
    | false =>
      have H5 : Hid (t.markedB = false) := by show _ = _; rw [HP2.out, hn]; rfl
      have HNN := Lib.hid hn
      clear hn
      go_enter Tryd.func50, Tryd.ntmps50
      go_wp2_with fail
      refine (refnode_any t _ _ HL.out).mono ?_
      rintro e w1 ⟨rfl, hb'⟩
      have HB2 := below_call (Below.refl (w.heap.size + 1) (w.alloc (.cells #[.int .i64 t.k, .int .i64 t.i, .int .i64 t.j, .int .i64 t.n, .slice a t.kids.length cap] 26))) hb' (by simp)
      obtain ⟨d0, d1, d2, d3, d4⟩ := HBX.out _ HB2
      clear hb'
      rw [HNN.out]
      go_wp2
      go_ret
      exact ⟨ret_bool H5.out.symm, below_of_box HB2⟩
    | true =>
      have HNN := Lib.hid hn
      clear hn
      go_enter Tryd.func50, Tryd.ntmps50
      go_wp2_with fail
      refine (refnode_any t _ _ HL.out).mono ?_
      rintro e w1 ⟨rfl, hb'⟩
      have HB2 := below_call (Below.refl (w.heap.size + 1) (w.alloc (.cells #[.int .i64 t.k, .int .i64 t.i, .int .i64 t.j, .int .i64 t.n, .slice a t.kids.length cap] 26))) hb' (by simp)
      obtain ⟨d0, d1, d2, d3, d4⟩ := HBX.out _ HB2
      clear hb'
      rw [HNN.out]
      go_wp2_with fail
      go_loopw [3] (fun iv wr => ∃ k : Nat, k ≤ t.kids.length ∧ iv = .int .i64 k ∧ Hid (markeds (t.k == 12) 0 (t.kids.take k) = true) ∧ Below (w.heap.size + 1) (w.alloc (.cells #[.int .i64 t.k, .int .i64 t.i, .int .i64 t.j, .int .i64 t.n, .slice a t.kids.length cap] 26)) wr) (fun iv _ => t.kids.length - (intOf iv).toNat)
      case atStart => exact ⟨0, Nat.zero_le _, rfl, by simp [Hid, markeds], HB2⟩
      case round =>
        obtain ⟨k, hk, rfl, hgood, hb⟩ := hrel
        obtain ⟨d0, d1, d2, d3, d4⟩ := HBX.out _ hb
        have hb0 := below_of_box hb
        by_cases hlt : k < t.kids.length
        · obtain ⟨b, o, rfl, hx⟩ := HN.out k hlt
          have hy := hx.below hb0 hx.lt
          obtain ⟨c0, c1, c2, c3, c4⟩ := hy
          have hq := HK.out k hlt
          obtain ⟨a', cap', S', hS, -⟩ := hq.out
          rw [hS] at c4 hq
          have HQ := Lib.hid (hq.keep hb0)
          clear hS hq
          have HM := Lib.hid (List.getElem_mem hlt)
          have HT := Lib.hid (markeds_take (t.k == 12) t.kids 0 k hlt)
          cases e12 : (t.k == 12) <;> cases e2 : ((k : Int) == 2)
          rotate_right
          · have e2' : (k == 2) = ((k : Int) == 2) := by rw [e2]; simp at e2 ⊢; omega
            have hkB : (t.kids[k]).kidB (t.k == 12) k = (t.kids[k]).plainB := by simp [Tm.kidB, e12, e2', e2]
            have HKB := Lib.hid hkB
            clear e2' hkB
            go_wp2_with fail
            refine (refplain_any _ _ _ HQ.out).mono ?_
            rintro e w2 ⟨rfl, hb'⟩
            have HB3 := below_call hb hb' (by have := hb.size; simpa using this)
            obtain ⟨x0, x1, x2, x3, x4⟩ := HBX.out _ HB3
            clear hb' hb d0 d1 d2 d3 d4 hb0 c0 c1 c2 c3 c4
            cases hp : (t.kids[k]).plainB
            · go_wp2
              go_ret
              exact ⟨ret_bool (by rw [HP2.out, markeds_of _ t.kids 0 k hlt (by rw [Nat.zero_add, HKB.out]; exact hp), Bool.and_false]), below_of_box HB3⟩
            · go_wp2
              go_roundw
              case rel => exact ⟨k + 1, by omega, by go_num, by have h1 := HT.out; rw [hgood.out, Nat.zero_add, HKB.out, hp] at h1; show _ = true; first | exact h1 | (rw [e12] at h1; exact h1), HB3⟩
              case measure => simp [intOf]; omega
          all_goals
            have e2' : (k == 2) = ((k : Int) == 2) := by rw [e2]; simp at e2 ⊢; omega
            have hkB : (t.kids[k]).kidB (t.k == 12) k = (t.kids[k]).markedB := by simp [Tm.kidB, e12, e2', e2]
            have HKB := Lib.hid hkB
            clear e2' hkB
            go_wp2_with fail
            refine (IH.out _ HM.out _ _ HQ.out).mono ?_
            rintro e w2 ⟨rfl, hb'⟩
            have HB3 := below_call hb hb' (by have := hb.size; simpa using this)
            obtain ⟨x0, x1, x2, x3, x4⟩ := HBX.out _ HB3
            clear hb' hb d0 d1 d2 d3 d4 hb0 c0 c1 c2 c3 c4
            cases hp : (t.kids[k]).markedB
            · go_wp2
              go_ret
              exact ⟨ret_bool (by rw [HP2.out, markeds_of _ t.kids 0 k hlt (by rw [Nat.zero_add, HKB.out]; exact hp), Bool.and_false]), below_of_box HB3⟩
            · go_wp2
              go_roundw
              case rel => exact ⟨k + 1, by omega, by go_num, by have h1 := HT.out; rw [hgood.out, Nat.zero_add, HKB.out, hp] at h1; show _ = true; first | exact h1 | (rw [e12] at h1; exact h1), HB3⟩
              case measure => simp [intOf]; omega
        · have : k = t.kids.length := by omega
          subst this
          go_wp2
          go_ret
          exact ⟨ret_bool (by have hg := hgood.out; rw [List.take_length] at hg; rw [HP2.out, HNN.out, hg]; rfl), hb0⟩
end Go.Proofs.YtpekceadjcbphaaDoor

namespace Go.Proofs.YtpekceadjcbphaaDoor
open Go.RowKit

set_option maxHeartbeats 800000 in
theorem refright_any (t : Tm) (w : World) (s : Value) (hl : Lies w t.kids s) : Calls Tryd.prog 34 #[tv t s] w fun e w' => e = .returned (.bool t.rightB) ∧ Below w.heap.size w w' := by
  obtain ⟨a, cap, S, hs, -⟩ := hl.out
  subst hs
  have HB := (Below.refl (w.heap.size + 1) (w.alloc (.cells #[.int .i64 t.k, .int .i64 t.i, .int .i64 t.j, .int .i64 t.n, .slice a t.kids.length cap] 26)))
  have HL := Lib.hid (hl.keep (below_of_box HB))
  have HBX := Lib.hid (fun (wr : World) => box_cells (w := w) (wr := wr) (v0 := .int .i64 t.k) (v1 := .int .i64 t.i) (v2 := .int .i64 t.j) (v3 := .int .i64 t.n) (v4 := .slice a t.kids.length cap) (T := 26))
  have hl0 := Lib.hid hl
  clear hl
  unfold tv
  go_enter Tryd.func34, Tryd.ntmps34
  go_wp2_with fail
  refine (refmarked_any t _ _ HL.out).mono ?_
  rintro e w' ⟨rfl, hb'⟩
  have HB2 := below_call HB hb' (by simp)
  obtain ⟨d0, d1, d2, d3, d4⟩ := HBX.out _ HB2
  clear hb'
  have HL2 := Lib.hid (hl0.out.keep (below_of_box HB2))
  cases hm : t.markedB
  · go_wp2_with fail
    refine (refplain_any t _ _ HL2.out).mono ?_
    rintro e w2 ⟨rfl, hb'⟩
    have HB3 := below_call HB2 hb' (by have := HB2.size; simpa using this)
    clear hb'
    go_wp2
    go_ret
    exact ⟨ret_bool (by simp [Tm.rightB, hm]), below_of_box HB3⟩
  · go_wp2
    go_ret
    exact ⟨ret_bool (by simp [Tm.rightB, hm]), below_of_box HB2⟩

set_option maxHeartbeats 800000 in
theorem refFree_any (t : Tm) (w : World) (s : Value) (hl : Lies w t.kids s) : Calls Tryd.prog 19 #[tv t s] w fun e w' => e = .returned (.int .i64 t.freeB) ∧ Below w.heap.size w w' := by
  obtain ⟨a, cap, S, hs, -⟩ := hl.out
  subst hs
  have HB := (Below.refl (w.heap.size + 1) (w.alloc (.cells #[.int .i64 t.k, .int .i64 t.i, .int .i64 t.j, .int .i64 t.n, .slice a t.kids.length cap] 26)))
  have HL := Lib.hid (hl.keep (below_of_box HB))
  have HBX := Lib.hid (fun (wr : World) => box_cells (w := w) (wr := wr) (v0 := .int .i64 t.k) (v1 := .int .i64 t.i) (v2 := .int .i64 t.j) (v3 := .int .i64 t.n) (v4 := .slice a t.kids.length cap) (T := 26))
  have hl0 := Lib.hid hl
  clear hl
  unfold tv
  go_enter Tryd.func19, Tryd.ntmps19
  go_wp2_with fail
  refine (refright_any t _ _ HL.out).mono ?_
  rintro e w' ⟨rfl, hb'⟩
  have HB2 := below_call HB hb' (by simp)
  obtain ⟨d0, d1, d2, d3, d4⟩ := HBX.out _ HB2
  clear hb'
  have HL2 := Lib.hid (hl0.out.keep (below_of_box HB2))
  cases hr : t.rightB
  · go_wp2
    go_ret
    exact ⟨ret_int (by simp [Tm.freeB, hr]), below_of_box HB2⟩
  · go_wp2_with fail
    refine (reffree_any t _ _ HL2.out hr).mono ?_
    rintro e w2 ⟨rfl, hb'⟩
    have HB3 := below_call HB2 hb' (by have := HB2.size; simpa using this)
    clear hb'
    go_wp2
    go_ret
    exact ⟨ret_int (by simp [Tm.freeB, hr]), below_of_box HB3⟩

end Go.Proofs.YtpekceadjcbphaaDoor

namespace Go.Proofs.YtpekceadjcbphaaDoor.Sg
open Go.RowKit
open Rt (below_gr below_of)

set_option maxHeartbeats 4000000 in
set_option maxRecDepth 20000 in
theorem shape_none (n i j : Int) (w : World) (h : n < 1 ∨ 21 < n ∨ i < 0 ∨ 1000 ≤ i ∨ j < 0 ∨ 1000 ≤ j) (hT : TabsR w.heap.size w) : Calls Tryd.prog 5 #[.int .i64 n, .int .i64 i, .int .i64 j] w fun e w' => e = .returned (.bool true) ∧ Below w.heap.size w w' := by
  have HAT := Lib.hid (at_none n i j w h)
  have HTT := Lib.hid hT
  have HWK := Lib.hid (fun (w' : World) (hb : Below w.heap.size w w') => wakes17_any w' (hT.keep hb) hb.size)
  clear hT
  by_cases c0 : n < 1
  · clear h
    go_enter Tryd.func5, Tryd.ntmps5
    go_wp2_with fail
    refine HAT.out.mono ?_
    rintro e w1 ⟨rfl, hb1⟩
    have hbs := hb1.alloc hb1.size (.cells (symV [] (.slice none 0 0) (.slice none 0 0) (.slice none 0 0) Tm.zero Tm.zero false) 34)
    have hsy : (w1.alloc (.cells (symV [] (.slice none 0 0) (.slice none 0 0) (.slice none 0 0) Tm.zero Tm.zero false) 34)).heap[w1.heap.size]? = some _ := alloc_new _ _
    unfold symV at hsy
    obtain ⟨⟨p0, p1, -, -, -, -, -, -, -, -, -, -, -⟩, -⟩ := cells13 hsy
    have HBS := Lib.hid hbs
    unfold noSym symV
    clear hb1 hsy hbs
    go_wp2_with fail
    refine (HWK.out _ HBS.out).mono ?_
    rintro e w2 ⟨rfl, hb2⟩
    have HB2 := Lib.hid (HBS.out.trans (hb2.mono HBS.out.size))
    clear hb2 p0 p1
    go_wp2
    go_ret
    exact ⟨rfl, HB2.out⟩
  by_cases c1 : 21 < n
  · clear h
    go_enter Tryd.func5, Tryd.ntmps5
    go_wp2_with fail
    refine HAT.out.mono ?_
    rintro e w1 ⟨rfl, hb1⟩
    have hbs := hb1.alloc hb1.size (.cells (symV [] (.slice none 0 0) (.slice none 0 0) (.slice none 0 0) Tm.zero Tm.zero false) 34)
    have hsy : (w1.alloc (.cells (symV [] (.slice none 0 0) (.slice none 0 0) (.slice none 0 0) Tm.zero Tm.zero false) 34)).heap[w1.heap.size]? = some _ := alloc_new _ _
    unfold symV at hsy
    obtain ⟨⟨p0, p1, -, -, -, -, -, -, -, -, -, -, -⟩, -⟩ := cells13 hsy
    have HBS := Lib.hid hbs
    unfold noSym symV
    clear hb1 hsy hbs
    go_wp2_with fail
    refine (HWK.out _ HBS.out).mono ?_
    rintro e w2 ⟨rfl, hb2⟩
    have HB2 := Lib.hid (HBS.out.trans (hb2.mono HBS.out.size))
    clear hb2 p0 p1
    go_wp2
    go_ret
    exact ⟨rfl, HB2.out⟩
  by_cases c2 : i < 0
  · clear h
    go_enter Tryd.func5, Tryd.ntmps5
    go_wp2_with fail
    refine HAT.out.mono ?_
    rintro e w1 ⟨rfl, hb1⟩
    have hbs := hb1.alloc hb1.size (.cells (symV [] (.slice none 0 0) (.slice none 0 0) (.slice none 0 0) Tm.zero Tm.zero false) 34)
    have hsy : (w1.alloc (.cells (symV [] (.slice none 0 0) (.slice none 0 0) (.slice none 0 0) Tm.zero Tm.zero false) 34)).heap[w1.heap.size]? = some _ := alloc_new _ _
    unfold symV at hsy
    obtain ⟨⟨p0, p1, -, -, -, -, -, -, -, -, -, -, -⟩, -⟩ := cells13 hsy
    have HBS := Lib.hid hbs
    unfold noSym symV
    clear hb1 hsy hbs
    go_wp2_with fail
    refine (HWK.out _ HBS.out).mono ?_
    rintro e w2 ⟨rfl, hb2⟩
    have HB2 := Lib.hid (HBS.out.trans (hb2.mono HBS.out.size))
    clear hb2 p0 p1
    go_wp2
    go_ret
    exact ⟨rfl, HB2.out⟩
  by_cases c3 : 1000 ≤ i
  · clear h
    go_enter Tryd.func5, Tryd.ntmps5
    go_wp2_with fail
    refine HAT.out.mono ?_
    rintro e w1 ⟨rfl, hb1⟩
    have hbs := hb1.alloc hb1.size (.cells (symV [] (.slice none 0 0) (.slice none 0 0) (.slice none 0 0) Tm.zero Tm.zero false) 34)
    have hsy : (w1.alloc (.cells (symV [] (.slice none 0 0) (.slice none 0 0) (.slice none 0 0) Tm.zero Tm.zero false) 34)).heap[w1.heap.size]? = some _ := alloc_new _ _
    unfold symV at hsy
    obtain ⟨⟨p0, p1, -, -, -, -, -, -, -, -, -, -, -⟩, -⟩ := cells13 hsy
    have HBS := Lib.hid hbs
    unfold noSym symV
    clear hb1 hsy hbs
    go_wp2_with fail
    refine (HWK.out _ HBS.out).mono ?_
    rintro e w2 ⟨rfl, hb2⟩
    have HB2 := Lib.hid (HBS.out.trans (hb2.mono HBS.out.size))
    clear hb2 p0 p1
    go_wp2
    go_ret
    exact ⟨rfl, HB2.out⟩
  by_cases c4 : j < 0
  · clear h
    go_enter Tryd.func5, Tryd.ntmps5
    go_wp2_with fail
    refine HAT.out.mono ?_
    rintro e w1 ⟨rfl, hb1⟩
    have hbs := hb1.alloc hb1.size (.cells (symV [] (.slice none 0 0) (.slice none 0 0) (.slice none 0 0) Tm.zero Tm.zero false) 34)
    have hsy : (w1.alloc (.cells (symV [] (.slice none 0 0) (.slice none 0 0) (.slice none 0 0) Tm.zero Tm.zero false) 34)).heap[w1.heap.size]? = some _ := alloc_new _ _
    unfold symV at hsy
    obtain ⟨⟨p0, p1, -, -, -, -, -, -, -, -, -, -, -⟩, -⟩ := cells13 hsy
    have HBS := Lib.hid hbs
    unfold noSym symV
    clear hb1 hsy hbs
    go_wp2_with fail
    refine (HWK.out _ HBS.out).mono ?_
    rintro e w2 ⟨rfl, hb2⟩
    have HB2 := Lib.hid (HBS.out.trans (hb2.mono HBS.out.size))
    clear hb2 p0 p1
    go_wp2
    go_ret
    exact ⟨rfl, HB2.out⟩
  by_cases c5 : 1000 ≤ j
  · clear h
    go_enter Tryd.func5, Tryd.ntmps5
    go_wp2_with fail
    refine HAT.out.mono ?_
    rintro e w1 ⟨rfl, hb1⟩
    have hbs := hb1.alloc hb1.size (.cells (symV [] (.slice none 0 0) (.slice none 0 0) (.slice none 0 0) Tm.zero Tm.zero false) 34)
    have hsy : (w1.alloc (.cells (symV [] (.slice none 0 0) (.slice none 0 0) (.slice none 0 0) Tm.zero Tm.zero false) 34)).heap[w1.heap.size]? = some _ := alloc_new _ _
    unfold symV at hsy
    obtain ⟨⟨p0, p1, -, -, -, -, -, -, -, -, -, -, -⟩, -⟩ := cells13 hsy
    have HBS := Lib.hid hbs
    unfold noSym symV
    clear hb1 hsy hbs
    go_wp2_with fail
    refine (HWK.out _ HBS.out).mono ?_
    rintro e w2 ⟨rfl, hb2⟩
    have HB2 := Lib.hid (HBS.out.trans (hb2.mono HBS.out.size))
    clear hb2 p0 p1
    go_wp2
    go_ret
    exact ⟨rfl, HB2.out⟩
  omega
theorem plain_bo {pl : Plan} {i j : Int} {n : Nat} (hb : pl.body.isSome = decide (2 < n)) (hg : ∀ b, pl.body = some b → goodF b (pl.pars.map (·.1)) = true) (hl : ∀ b, pl.body = some b → b.length ≤ 10000000) (hn : pl.pars.length ≤ 10000000) (hi : 0 ≤ i ∧ i ≤ 999) (hj : 0 ≤ j ∧ j ≤ 999) : (bodyT pl i j).plainB = decide (2 < n) ∧ (bodyT pl i j).freeB ≤ (pl.pars.length : Int) := by
  unfold bodyT
  cases hx : pl.body with
  | none =>
    rw [hx] at hb
    have hz : Tm.zero.freeB = 0 := by kernel_rfl
    refine ⟨by rw [← hb]; rfl, ?_⟩
    show Tm.zero.freeB ≤ _
    rw [hz]
    omega
  | some b =>
    rw [hx] at hb
    obtain ⟨h1, h2⟩ := out_good (hg b hx) (hl b hx) (by simpa using hn) hi hj
    rw [List.length_map] at h2
    refine ⟨by dsimp only; rw [h1, ← hb]; rfl, ?_⟩
    dsimp only
    unfold Tm.freeB
    split <;> omega
theorem lib_pieces {l : List UInt8} {q r : List Tok} {p : List UInt8} (h : pieceL l q = some (p, r)) : p.length ≤ l.length := by
  cases q with
  | nil => cases h
  | cons t q =>
    obtain ⟨la, -, rfl, -, -⟩ := pieceL_some h
    simp only [List.length_drop, List.length_take]
    omega
theorem pars_pieces {l : List UInt8} : ∀ (f : Nat) (q r : List Tok) (ps : List (List UInt8 × List UInt8)), parsL l f q = some (ps, r) → ps.length ≤ f ∧ ∀ p ∈ ps, p.2.length ≤ l.length
  | 0, q, r, ps, h => by cases q <;> cases h
  | f + 1, [], r, ps, h => by cases h
  | f + 1, t :: q, r, ps, h => by
    by_cases hk : t.k = 1
    · obtain ⟨x, q1, p, cl, q4, ps', rfl, hpc, hrest, rfl⟩ := parsL_go hk h
      obtain ⟨h1, h2⟩ := pars_pieces f _ _ _ hrest
      refine ⟨by simp; omega, fun y hy => ?_⟩
      rcases List.mem_cons.1 hy with rfl | hy
      · exact lib_pieces hpc
      · exact h2 y hy
    · obtain ⟨rfl, -⟩ := parsL_stop hk h
      exact ⟨Nat.zero_le _, fun y hy => (by cases hy)⟩
theorem plan_small {l : List UInt8} {ts : List Tok} {pl : Plan} (h : planL l ts = some pl) : pl.pars.length ≤ 30 ∧ (∀ p ∈ pl.pars, p.2.length ≤ l.length) ∧ pl.type.length ≤ l.length ∧ ∀ b, pl.body = some b → b.length ≤ l.length := by
  obtain ⟨t0, t1, t2, t3, r, te, r2, r3, rfl, hps, hty, -, -, hbd, hnb⟩ := planL_some h
  obtain ⟨h1, h2⟩ := pars_pieces _ _ _ _ hps
  refine ⟨h1, h2, lib_pieces hty, fun b hb => ?_⟩
  cases hd : pl.defn with
  | false => rw [hnb hd] at hb; cases hb
  | true =>
    obtain ⟨b', r5, hp, hb'⟩ := hbd hd
    rw [hb'] at hb
    cases hb
    exact lib_pieces hp
/-- A symbol of the library: its line, its plan and what they say. -/
theorem sym_plan {m : Int} (h1 : ¬ m < 1) (h2 : ¬ 21 < m) : ∃ (n : Nat) (l : List UInt8) (ts : List Tok) (pl : Plan), m = (n : Int) + 1 ∧ libL[n]? = some l ∧ lexL l 0 = (ts, none) ∧ planL l ts = some pl ∧ planOk pl = true ∧ kidsN 23 m = (pl.pars.length : Int) ∧ nameB m = pl.name ∧ pl.defn = decide (2 < m) ∧ pl.body.isSome = decide (2 < n + 1) ∧ l.length ≤ 2000 := by
  obtain ⟨n, rfl⟩ : ∃ n : Nat, m = (n : Int) + 1 := ⟨(m - 1).toNat, by omega⟩
  have hn : n < 21 := by omega
  have e21 : libL.length = 21 := rfl
  obtain ⟨l, hl⟩ : ∃ l, libL[n]? = some l := ⟨_, List.getElem?_eq_getElem (by omega)⟩
  have hmem := List.mem_of_getElem? hl
  obtain ⟨ts, pl, h3, h4, h5⟩ := lib_plan (lib_ok l hmem)
  have h6 : (lexF (l.length + 1) l 0).1 = ts := by rw [← lexL_F, h3]
  obtain ⟨h7, h8, h9, h10⟩ := line_says (line_ok n l hl) (by rw [h6]; exact h4)
  refine ⟨n, l, ts, pl, rfl, hl, h3, h4, h5, ?_, ?_, ?_, h10, lib_len l hmem⟩
  · rw [h7]; rfl
  · rw [h8]; rfl
  · rw [h9]; exact decide_eq_decide.2 (by omega)
set_option maxHeartbeats 8000000 in
set_option maxRecDepth 20000 in
theorem shape_some (m i j : Int) (w : World) (c1 : ¬ m < 1) (c2 : ¬ 21 < m) (hi : 0 ≤ i ∧ i ≤ 999) (hj : 0 ≤ j ∧ j ≤ 999) (hT : TabsR w.heap.size w) : Calls Tryd.prog 5 #[.int .i64 m, .int .i64 i, .int .i64 j] w fun e w' => e = .returned (.bool true) ∧ Below w.heap.size w w' := by
  obtain ⟨n, l, ts, pl, hm, hl, hlx, hpl, hok, hkn, hnb, hdf, hbs, hll⟩ := sym_plan c1 c2
  obtain ⟨hsm1, hsm2, hsm3, hsm4⟩ := plan_small hpl
  obtain ⟨hg1, hg2, hg3⟩ := plan_good hok
  have HAT := Lib.hid (at_some n m i j w hl hm hi hj hT (Nat.le_refl _) hlx hpl)
  have HWK := Lib.hid (fun (w' : World) (hb : Below w.heap.size w w') => wakes17_any w' (hT.keep hb) hb.size)
  have HTT := Lib.hid hT
  have hpb := plain_bo (i := i) (j := j) hbs hg3 (fun b hb => by have := hsm4 b hb; omega) (by omega) hi hj
  rw [show decide (2 < n + 1) = decide (2 < m) from decide_eq_decide.2 (by omega)] at hpb
  have hpt := out_good (i := i) (j := j) hg2 (by omega) (by rw [List.length_map]; omega) hi hj
  have hpp := pars_good hi hj pl.pars [] hg1 (fun p hp => by have := hsm2 p hp; omega) (by simp; omega)
  have HPP := Lib.hid hpp
  have HDF := Lib.hid hdf
  have HSM := Lib.hid hsm1
  have HNB := Lib.hid hnb
  have HKN0 := Lib.hid hkn
  have HPL0 := Lib.hid (parsT_length i j pl.pars [])
  obtain ⟨ty, hty⟩ : ∃ ty, typeT pl i j = ty := ⟨_, rfl⟩
  obtain ⟨bo, hbo⟩ : ∃ bo, bodyT pl i j = bo := ⟨_, rfl⟩
  obtain ⟨qs, hqs⟩ : ∃ qs, parsT i j [] pl.pars = qs := ⟨_, rfl⟩
  rw [hbo] at hpb
  rw [show outT (readB pl.type (pl.pars.map (·.1)) i j) = ty from hty] at hpt
  rw [hqs] at HPP HPL0
  have HPB := Lib.hid hpb.1
  have HFB := Lib.hid hpb.2
  have HPT := Lib.hid hpt.1
  have HFT := Lib.hid (show ty.freeB ≤ (pl.pars.length : Int) from by
    have h := hpt.2
    rw [List.length_map] at h
    unfold Tm.freeB
    split <;> omega)
  have HTQ := Lib.hid (And.intro hty (And.intro hbo hqs))
  clear hl hm hlx hpl hok hkn hnb hdf hbs hll hsm1 hsm2 hsm3 hsm4 hg1 hg2 hg3 hpb hpt hpp hT hi hj hty hbo hqs
  go_enter Tryd.func5, Tryd.ntmps5
  go_wp2_with fail
  refine HAT.out.mono ?_
  rintro e w1 ⟨ps, tsv, bsv, rfl, hps, hts, hbs, -, -, hb1⟩
  rw [HTQ.out.1, HTQ.out.2.1, HDF.out]
  rw [HTQ.out.1] at hts
  rw [HTQ.out.2.1] at hbs
  rw [HTQ.out.2.2] at hps
  obtain ⟨ap, np, cp, rfl, rfl⟩ := liesP_slice hps
  obtain ⟨au, nu, cu, rfl, -⟩ := liesP_slice hts
  obtain ⟨ab, nb, cb, rfl, -⟩ := liesP_slice hbs
  have hsy : (w1.alloc (.cells (symV pl.name (.slice ap qs.length cp) (.slice au nu cu) (.slice ab nb cb) ty bo (decide (2 < m))) 34)).heap[w1.heap.size]? = some _ := alloc_new _ _
  have hb2 := hb1.alloc hb1.size (.cells (symV pl.name (.slice ap qs.length cp) (.slice au nu cu) (.slice ab nb cb) ty bo (decide (2 < m))) 34)
  have hb3 := (Below.refl w1.heap.size w1).alloc (Nat.le_refl _) (.cells (symV pl.name (.slice ap qs.length cp) (.slice au nu cu) (.slice ab nb cb) ty bo (decide (2 < m))) 34)
  have HLP := Lib.hid (hps.lies.keep hb3)
  have HLT := Lib.hid (hts.lies.keep hb3)
  have HLB := Lib.hid (hbs.lies.keep hb3)
  have HB2 := Lib.hid hb2
  have HSY := Lib.hid hsy
  have HNP := Lib.hid (show qs.length = pl.pars.length from HPL0.out)
  clear hps hts hbs hb1 hb2 hb3 hsy HAT
  unfold symV
  go_upto_region 2 with fail
  obtain ⟨W, hW⟩ : ∃ W, W = w1.alloc (.cells (symV pl.name (.slice ap qs.length cp) (.slice au nu cu) (.slice ab nb cb) ty bo (decide (2 < m))) 34) := ⟨_, rfl⟩
  rw [← hW] at HLP HLT HLB HB2 HSY
  unfold symV at hW
  rw [← hW]
  clear hW
  obtain ⟨b, hb⟩ : ∃ b, b = w1.heap.size := ⟨_, rfl⟩
  rw [← hb] at HSY
  rw [← hb]
  clear hb
  have hsy := HSY.out
  unfold symV at hsy
  obtain ⟨⟨p0, p1, p2, p3, p4, p5, p6, p7, p8, p9, p10, p11, p12⟩, -⟩ := cells13 hsy
  have HKN := Lib.hid (show kidsN 23 m = (qs.length : Int) from by rw [HKN0.out, HNP.out])
  have HTW := Lib.hid ((HTT.out.keep HB2.out).up HB2.out.size)
  clear hsy
  go_upto_region 4 with fail
  (try simp only [List.append_eq, List.cons_append, List.nil_append])
  have kq0 := cell_regrown p0
  have kq1 := cell_regrown p1
  have kq2 := cell_regrown p2
  have kq3 := cell_regrown p3
  have kq4 := cell_regrown p4
  have kq5 := cell_regrown p5
  have kq6 := cell_regrown p6
  have kq7 := cell_regrown p7
  have kq8 := cell_regrown p8
  have kq9 := cell_regrown p9
  have kq10 := cell_regrown p10
  have kq11 := cell_regrown p11
  have kq12 := cell_regrown p12
  have cK : ∀ d os, Calls Tryd.prog 16 #[.int .i64 23, .int .i64 m] (Go.Sort.grow (redrawn W d) os) fun e w'' => e = .returned (.int .i64 (qs.length : Int)) ∧ ∃ p : Regrown, w'' = Go.Sort.grow (redrawn W p.d) p.os := fun d os => Calls.regrown_of ((refkids_use m _).mono fun e w' h => ⟨by rw [h.1, HKN.out], h.2⟩)
  have cN : ∀ d os, Calls Tryd.prog 17 #[.int .i64 m] (Go.Sort.grow (redrawn W d) os) fun e w'' => e = .returned (.string ⟨pl.name.toArray⟩) ∧ ∃ p : Regrown, w'' = Go.Sort.grow (redrawn W p.d) p.os := fun d os => Calls.regrown_of ((nameR_any W.heap.size m _ (HTW.out.keep (below_regrown W d os))).mono fun e w' h => ⟨by rw [h.1, HNB.out], by obtain rfl := h.2; exact Below.refl _ _⟩)
  have cP : ∀ d os, Calls Tryd.prog 18 #[.agg #[.int .i64 bo.k, .int .i64 bo.i, .int .i64 bo.j, .int .i64 bo.n, .slice ab nb cb]] (Go.Sort.grow (redrawn W d) os) fun e w'' => e = .returned (.bool (decide (2 < m))) ∧ ∃ p : Regrown, w'' = Go.Sort.grow (redrawn W p.d) p.os := fun d os => Calls.regrown_of ((refplain_any bo _ _ (HLB.out.keep (below_regrown W d os))).mono fun e w' h => ⟨by rw [h.1, HPB.out], h.2⟩)
  refine wp_region_quiet_below (by kernel_rfl) (by kernel_rfl) ?_
  repeat (any_goals (first | go_big_quiet_step (first | with_reducible exact cK _ _ | with_reducible exact cN _ _ | with_reducible exact cP _ _) | quiet_step (first | with_reducible exact cK _ _ | with_reducible exact cN _ _ | with_reducible exact cP _ _)))
  refine wpQuiet_nil ?_
  intro _ hw'
  obtain ⟨⟨dq, osq⟩, hw''⟩ := hw'
  subst hw''
  have hbq := below_regrown W dq osq
  clear kq0 kq1 kq2 kq3 kq4 kq5 kq6 kq7 kq8 kq9 kq10 kq11 kq12 cK cN cP

  have hbv := hbq
  obtain ⟨V, hV⟩ : ∃ V, V = Go.Sort.grow (redrawn W dq) osq := ⟨_, rfl⟩
  rw [← hV] at hbv
  rw [← hV]
  have hsv := (hbv.block _ (Array.getElem?_eq_some_iff.1 HSY.out).1).trans HSY.out
  have HBV := Lib.hid (HB2.out.trans (hbv.mono HB2.out.size))
  have HLPV := Lib.hid (HLP.out.keep hbv)
  have HLT2 := Lib.hid (HLT.out.keep hbv)
  have HLB2 := Lib.hid (HLB.out.keep hbv)
  have HSV := Lib.hid hsv
  unfold symV at hsv
  obtain ⟨⟨v0, v1, v2, v3, v4, v5, v6, v7, v8, v9, v10, v11, v12⟩, -⟩ := cells13 hsv
  clear hV hbq hbv hsv HB2 HLP HLT HLB HSY
  obtain ⟨a, cap, S, he, hc, hmx, -, hn, hk⟩ := HLPV.out.out
  cases he
  unfold maxLen at hmx
  have HN := Lib.hid hn
  have HK := Lib.hid hk
  clear hn hk
  go_wp2_with fail
  go_loopw [9] (fun iv wr => ∃ k : Nat, k ≤ qs.length ∧ iv = .int .i64 k ∧ Below V.heap.size V wr) (fun iv _ => qs.length - (intOf iv).toNat)
  case atStart => exact ⟨0, Nat.zero_le _, rfl, Below.refl _ _⟩
  case round =>
    obtain ⟨k, hk, rfl, hb⟩ := hrel
    by_cases hlt : k < qs.length
    · obtain ⟨b', o, rfl, hx⟩ := HN.out k hlt
      have hblt := (Array.getElem?_eq_some_iff.1 HSV.out).1
      have y1 := (hb.cell (p := ⟨b, 1, none⟩) hblt).trans v1
      obtain ⟨c0, c1, c2, c3, c4⟩ := hx.below hb hx.lt
      have hq := (HK.out k hlt).keep hb
      obtain ⟨a', cap', S', hS, -⟩ := hq.out
      rw [hS] at c4 hq
      have HQ := Lib.hid hq
      have hpk := HPP.out k hlt
      have HPK := Lib.hid hpk.1
      have HFK := Lib.hid (show ¬ ((k : Int) < (qs[k]'hlt).freeB) from by
        have h := hpk.2
        simp only [List.length_nil] at h
        unfold Tm.freeB
        split <;> omega)
      have HX := Lib.hid hx
      have HBW := Lib.hid hb
      clear hS hq hpk hx
      go_wp2_with fail
      refine (refplain_any _ _ _ HQ.out).mono ?_
      rintro e w5 ⟨rfl, hb5⟩
      rw [HPK.out]
      have hb6 := HBW.out.trans (hb5.mono HBW.out.size)
      have hq5 := HQ.out.keep hb5
      have x1 := (hb6.cell (p := ⟨b, 1, none⟩) hblt).trans v1
      obtain ⟨d0, d1, d2, d3, d4⟩ := HX.out.below hb6 HX.out.lt
      have hd4 : w5.cell? ⟨b', o + k * 5 + 4, none⟩ = some (.slice a' (qs[k]'hlt).kids.length cap') := (hb5.cell (World.block_lt_of_cell? _ _ c4)).trans c4
      have HQ5 := Lib.hid hq5
      have HB6 := Lib.hid hb6
      clear d4 hb5 hq5 hb6 c0 c1 c2 c3 c4 y1 hb
      go_wp2_with fail
      refine (refFree_any _ _ _ HQ5.out).mono ?_
      rintro e w7 ⟨rfl, hb7⟩
      have hfk := HFK.out
      have HB8 := Lib.hid (HB6.out.trans (hb7.mono HB6.out.size))
      clear hb7 d0 d1 d2 d3 hd4 x1
      go_wp2_with fail
      go_roundw
      case rel => exact ⟨k + 1, by omega, by go_num, HB8.out⟩
      case measure => simp [intOf]; omega
    · obtain rfl : k = qs.length := by omega
      have hblt := (Array.getElem?_eq_some_iff.1 HSV.out).1
      have hsw := (hb.block _ hblt).trans HSV.out
      unfold symV at hsw
      obtain ⟨⟨p0, p1, p2, p3, p4, p5, p6, p7, p8, p9, p10, p11, p12⟩, -⟩ := cells13 hsw
      have HLT3 := Lib.hid (HLT2.out.keep hb)
      have HLB3 := Lib.hid (HLB2.out.keep hb)
      have HBU := Lib.hid (HBV.out.trans (hb.mono HBV.out.size))
      have hft : ty.freeB ≤ (qs.length : Int) := by rw [HNP.out]; exact HFT.out
      have hfb : bo.freeB ≤ (qs.length : Int) := by rw [HNP.out]; exact HFB.out
      clear hsw hb v0 v1 v2 v3 v4 v5 v6 v7 v8 v9 v10 v11 v12
      go_upto_region 11 with fail
      (try simp only [List.append_eq, List.cons_append, List.nil_append])
      have kq0 := cell_regrown p0
      have kq1 := cell_regrown p1
      have kq2 := cell_regrown p2
      have kq3 := cell_regrown p3
      have kq4 := cell_regrown p4
      have kq5 := cell_regrown p5
      have kq6 := cell_regrown p6
      have kq7 := cell_regrown p7
      have kq8 := cell_regrown p8
      have kq9 := cell_regrown p9
      have kq10 := cell_regrown p10
      have kq11 := cell_regrown p11
      have kq12 := cell_regrown p12
      have cP : ∀ d os, Calls Tryd.prog 18 #[.agg #[.int .i64 ty.k, .int .i64 ty.i, .int .i64 ty.j, .int .i64 ty.n, .slice au nu cu]] (Go.Sort.grow (redrawn wr d) os) fun e w'' => e = .returned (.bool true) ∧ ∃ p : Regrown, w'' = Go.Sort.grow (redrawn wr p.d) p.os := fun d os => Calls.regrown_of ((refplain_any ty _ _ (HLT3.out.keep (below_regrown wr d os))).mono fun e w' h => ⟨by rw [h.1, HPT.out], h.2⟩)
      have cF : ∀ d os, Calls Tryd.prog 19 #[.agg #[.int .i64 ty.k, .int .i64 ty.i, .int .i64 ty.j, .int .i64 ty.n, .slice au nu cu]] (Go.Sort.grow (redrawn wr d) os) fun e w'' => e = .returned (.int .i64 ty.freeB) ∧ ∃ p : Regrown, w'' = Go.Sort.grow (redrawn wr p.d) p.os := fun d os => Calls.regrown_of ((refFree_any ty _ _ (HLT3.out.keep (below_regrown wr d os))).mono fun e w' h => h)
      have cG : ∀ d os, Calls Tryd.prog 19 #[.agg #[.int .i64 bo.k, .int .i64 bo.i, .int .i64 bo.j, .int .i64 bo.n, .slice ab nb cb]] (Go.Sort.grow (redrawn wr d) os) fun e w'' => e = .returned (.int .i64 bo.freeB) ∧ ∃ p : Regrown, w'' = Go.Sort.grow (redrawn wr p.d) p.os := fun d os => Calls.regrown_of ((refFree_any bo _ _ (HLB3.out.keep (below_regrown wr d os))).mono fun e w' h => h)
      have cW : ∀ d os, Calls Tryd.prog 15 #[] (Go.Sort.grow (redrawn wr d) os) fun e w'' => e = .returned (.bool true) ∧ ∃ p : Regrown, w'' = Go.Sort.grow (redrawn wr p.d) p.os := fun d os => Calls.regrown_of ((HWK.out _ (HBU.out.trans ((below_regrown wr d os).mono HBU.out.size))).mono fun e w' h => ⟨h.1, h.2⟩)
      refine wp_region_quiet_below (by kernel_rfl) (by kernel_rfl) ?_
      repeat (any_goals (first | go_big_quiet_step (first | with_reducible exact cP _ _ | with_reducible exact cF _ _ | with_reducible exact cG _ _ | with_reducible exact cW _ _) | quiet_step (first | with_reducible exact cP _ _ | with_reducible exact cF _ _ | with_reducible exact cG _ _ | with_reducible exact cW _ _)))
      refine wpQuiet_nil ?_
      intro _ hw'
      obtain ⟨⟨dq, osq⟩, hw''⟩ := hw'
      subst hw''
      have hbq := below_regrown wr dq osq
      clear kq0 kq1 kq2 kq3 kq4 kq5 kq6 kq7 kq8 kq9 kq10 kq11 kq12 cP cF cG cW

      go_wp2
      go_ret
      exact ⟨rfl, HBU.out.trans (hbq.mono HBU.out.size)⟩
theorem sigShape_any (n i j : Int) (w : World) (hT : TabsR w.heap.size w) : Calls Tryd.prog 5 #[.int .i64 n, .int .i64 i, .int .i64 j] w fun e w' => e = .returned (.bool true) ∧ Below w.heap.size w w' := by
  by_cases h : n < 1 ∨ 21 < n ∨ i < 0 ∨ 1000 ≤ i ∨ j < 0 ∨ 1000 ≤ j
  · exact shape_none n i j w h hT
  · exact shape_some n i j w (by omega) (by omega) (by omega) (by omega) hT
end Go.Proofs.YtpekceadjcbphaaDoor.Sg

namespace Go.Proofs.YtpekceadjcbphaaDoor
open Go.RowKit Go.Lib

/-- The library's table stays as it is whatever is made. -/
def Tab (w : World) : Prop := TabBelow Tryd.prog w.heap.size w "internal/strconv.uint64pow10" .u64 pow10Tab
theorem Tab.later {w w' : World} (h : Tab w) (hb : Below w.heap.size w w') : Tab w' := fun _ h2 => TabBelow.here (TabBelow.on h (hb.trans (h2.mono hb.size)))
/-- A variable that holds just these texts. -/
def StrIs (w : World) (name : String) (ss : List (List UInt8)) : Prop := w.var? Tryd.prog name = some (ss.map fun s => Value.string ⟨s.toArray⟩).toArray
theorem StrIs.cell {W : World} {name : String} {ss : List (List UInt8)} {g : Nat} (h : StrIs W name ss) (hg : Tryd.prog.globalNamed name = some g) (i : Nat) (hi : i < ss.length) : W.cell? ⟨g, i, none⟩ = some (.string ⟨(ss[i]).toArray⟩) := by
  have := World.var?_cell hg h i
  simpa [hi] using this
theorem StrIs.on {w w' : World} {name : String} {ss : List (List UInt8)} (h : StrIs w name ss) (hb : Below w.heap.size w w') : StrIs w' name ss := by
  unfold StrIs World.var? at *
  cases hg : Tryd.prog.globalNamed name with
  | none => simp [hg] at h
  | some g =>
    simp only [hg, Option.bind_some] at h ⊢
    have hlt : g < w.heap.size := by
      rcases Nat.lt_or_ge g w.heap.size with h' | h'
      · exact h'
      · rw [Array.getElem?_eq_none h'] at h; simp at h
    rw [hb.block g hlt]
    exact h
/-- What a text of a term is written from. -/
structure WTab (w : World) : Prop where
  pow : Tab w
  syms : StrIs w "tranship/read.symbols" symsW
  heads : StrIs w "tranship/write.heads" headsW
theorem WTab.later {w w' : World} (h : WTab w) (hb : Below w.heap.size w w') : WTab w' := ⟨h.pow.later hb, h.syms.on hb, h.heads.on hb⟩
end Go.Proofs.YtpekceadjcbphaaDoor

namespace Go.Proofs.YtpekceadjcbphaaDoor
open Go.ChangeShapes Go.WideShapes Go.ChangeAt Go.RowKit

theorem own : ownKnob Tryd.prog.godebug = none := by kernel_rfl
instance instOpenTm : Inhabited (Tm × Value) := ⟨(.mk 0 0 0 0 [], .nilIface)⟩

end Go.Proofs.YtpekceadjcbphaaDoor

namespace Go.Proofs.YtpekceadjcbphaaDoor
theorem lt_of_cell {w : World} {b i : Nat} {v : Value} (h : w.cell? ⟨b, i, none⟩ = some v) : b < w.heap.size := by
  rcases Nat.lt_or_ge b w.heap.size with h1 | h1
  · exact h1
  · exfalso
    simp [World.cell?, Array.getElem?_eq_none h1] at h
open Go.ChangeShapes Go.WideShapes Go.ChangeAt Go.WideMaps Go.WideElems Go.RowKit

def laidT : List (String × DataW Unit) := Rows.readExactRow.laid
theorem door_met (os : Os) (args : Array Value) : laidMetH Tryd.prog laidT ((World.doorLaid Tryd.prog 400 os).forCall (fun _ _ => 0) ⟨#[], args, []⟩).memory :=
  laidMetH_of_parts3 (fuel := 8) (laidMet_of_run' 8 (by kernel_rfl) (by kernel_rfl)) (by kernel_rfl) (by kernel_rfl)
/-- A table of texts as a row lists it. -/
def strData {H : Type} (ss : List (List UInt8)) : DataW H := .agg (ss.map fun s => .lit (.string s))
theorem cells_of_strs {H : Type} {enc : TypeId × Value → H} {P : Program} {w : World} {base : Nat} {sp : Nat → Bool} {held : Bool} {fuel : Nat} {t e : TypeId} {n : Nat} {cs : List Value} {zs : List (List UInt8)} {p : List MemPlace}
    (ht : P.underlying t = some (.array n e)) (he : P.underlying e = some .string) (hce : P.cellsOf e = 1) (hct : P.cellsOf t = n)
    (h : DataW.trod enc P w base sp held fuel t cs = some (strData zs, p)) : cs = zs.map fun z => Value.string ⟨z.toArray⟩ := by
  cases fuel with
  | zero => simp [DataW.trod] at h
  | succ fuel =>
    simp only [DataW.trod, ht, hce, hct, Nat.mul_one] at h
    split at h
    · rename_i hl
      obtain ⟨xs, hm, hx⟩ := Option.map_eq_some_iff.1 h
      have hxs : xs.map (·.1) = zs.map fun z => (DataW.lit (.string z) : DataW H) := by
        have := congrArg Prod.fst hx
        simpa [strData] using this
      have hxl : xs.length = n := by simpa using Lib.mapM_length hm
      have hzl : zs.length = n := by
        have := congrArg List.length hxs
        simp at this
        omega
      apply List.ext_getElem?
      intro i
      by_cases hi : i < n
      · obtain ⟨b, hb, hf⟩ := Lib.mapM_at hm i i (by simp [hi])
        obtain ⟨z, hc, rfl, _⟩ := DataW.trod_string he hf
        have h1 : cs[i]? = some (.string z) := by
          have := congrArg (·[0]?) hc
          simpa [List.getElem?_take, List.getElem?_drop] using this
        have h2 : (xs.map (·.1))[i]? = some (DataW.lit (.string z.data.toList) : DataW H) := by simp [hb]
        rw [hxs] at h2
        simp only [List.getElem?_map, Option.map_eq_some_iff, DataW.lit.injEq, Lit.string.injEq] at h2
        obtain ⟨z', hz', e2⟩ := h2
        rw [h1, List.getElem?_map, hz']
        subst e2
        simp
      · rw [List.getElem?_eq_none (by omega), List.getElem?_eq_none (by simp; omega)]
    · cases h
theorem strIs_of_head {W : World} {name : String} {zs : List (List UInt8)} {rest : List (String × DataW Unit)} {g : Nat} {t e : TypeId} {n : Nat}
    (hg : Tryd.prog.globalNamed name = some g) (hty : (Tryd.prog.globals[g]?).map (·.type) = some t) (ht : Tryd.prog.underlying t = some (.array n e)) (he : Tryd.prog.underlying e = some .string) (hce : Tryd.prog.cellsOf e = 1) (hct : Tryd.prog.cellsOf t = n)
    (h : laidMet Tryd.prog ((name, strData zs) :: rest) W) : StrIs W name zs := by
  obtain ⟨ps, ⟨g', t', cs, fuel, p, q, hg', ht', hvar, hd, _, _⟩, _⟩ := h
  obtain rfl := Option.some.inj (hg.symm.trans hg')
  obtain rfl := Option.some.inj (hty.symm.trans ht')
  unfold StrIs
  rw [hvar, ← cells_of_strs ht he hce hct hd]
theorem syms_of_laid {W : World} (h : laidMetH Tryd.prog laidT W) : StrIs W "tranship/read.symbols" symsW := by
  have h2 := h.filter fun x => x.1 == "tranship/read.symbols"
  have e : (laidT.filter fun x => x.1 == "tranship/read.symbols") = [("tranship/read.symbols", strData symsW)] := by kernel_rfl
  rw [e] at h2
  rw [MakeChecks.laidMetH_plain _ _ _ (by kernel_rfl)] at h2
  exact strIs_of_head (g := 0) (t := 69) (e := 9) (n := 21) (by kernel_rfl) (by kernel_rfl) Tryd.underlying69 Tryd.underlying9 (by kernel_rfl) (by kernel_rfl) h2
theorem rheads_of_laid {W : World} (h : laidMetH Tryd.prog laidT W) : StrIs W "tranship/read.heads" (headsW.drop 3) := by
  have h2 := h.filter fun x => x.1 == "tranship/read.heads"
  have e : (laidT.filter fun x => x.1 == "tranship/read.heads") = [("tranship/read.heads", strData (headsW.drop 3))] := by kernel_rfl
  rw [e] at h2
  rw [MakeChecks.laidMetH_plain _ _ _ (by kernel_rfl)] at h2
  exact strIs_of_head (g := 1) (t := 69) (e := 9) (n := 21) (by kernel_rfl) (by kernel_rfl) Tryd.underlying69 Tryd.underlying9 (by kernel_rfl) (by kernel_rfl) h2
theorem tabsR_of_laid {W : World} (h : laidMetH Tryd.prog laidT W) : TabsR W.heap.size W := by
  have h1 := syms_of_laid h
  have h2 := rheads_of_laid h
  have c1 : ∀ k < 21, W.cell? ⟨0, k, none⟩ = some (.string ⟨((symsW[k]?).getD []).toArray⟩) := fun k hk => by
    have hl : k < symsW.length := hk
    rw [h1.cell (g := 0) (by kernel_rfl) k hl, List.getElem?_eq_getElem hl]; rfl
  have c2 : ∀ k < 21, W.cell? ⟨1, k, none⟩ = some (.string ⟨(((headsW.drop 3)[k]?).getD []).toArray⟩) := fun k hk => by
    have hl : k < (headsW.drop 3).length := hk
    rw [h2.cell (g := 1) (by kernel_rfl) k hl, List.getElem?_eq_getElem hl]; rfl
  exact ⟨⟨lt_of_cell (c2 0 (by decide)), lt_of_cell (c1 0 (by decide))⟩, c2, c1⟩
end Go.Proofs.YtpekceadjcbphaaDoor

namespace Go.Proofs.YtpekceadjcbphaaDoor
open Go.ChangeShapes Go.WideShapes

def code (l : List Nat) : List Char := l.map Char.ofNat
def joinN : List (List Nat) → List Nat
  | [] => []
  | [a] => a
  | a :: b :: r => a ++ 32 :: joinN (b :: r)

theorem words_one : ∀ a : List Nat, (a.all fun n => Char.ofNat n != Char.ofNat 32) = true → wordsSigns (code a) = [code a]
  | [], _ => rfl
  | n :: a, h => by
    simp only [List.all_cons, Bool.and_eq_true, bne_iff_ne] at h
    have ih := words_one a h.2
    show wordsSigns (Char.ofNat n :: code a) = _
    rw [wordsSigns]
    · rw [ih]; rfl
    · exact h.1
theorem words_more : ∀ (a : List Nat) (r : List Char), (a.all fun n => Char.ofNat n != Char.ofNat 32) = true → wordsSigns (code a ++ Char.ofNat 32 :: r) = code a :: wordsSigns r
  | [], r, _ => by
    show wordsSigns (Char.ofNat 32 :: r) = _
    rw [show Char.ofNat 32 = _ from rfl, wordsSigns]; rfl
  | n :: a, r, h => by
    simp only [List.all_cons, Bool.and_eq_true, bne_iff_ne] at h
    have ih := words_more a r h.2
    show wordsSigns (Char.ofNat n :: (code a ++ Char.ofNat 32 :: r)) = _
    rw [wordsSigns]
    · rw [ih]; rfl
    · exact h.1
theorem words_join : ∀ ws : List (List Nat), ws ≠ [] → (ws.all fun w => w.all fun n => Char.ofNat n != Char.ofNat 32) = true → wordsSigns (code (joinN ws)) = ws.map code
  | [], h, _ => absurd rfl h
  | [a], _, h => by simp only [List.all_cons, List.all_nil, Bool.and_true] at h; exact words_one a h
  | a :: b :: r, _, h => by
    have h' := h
    rw [List.all_cons, Bool.and_eq_true] at h'
    have ih := words_join (b :: r) (by simp) h'.2
    show wordsSigns (code (a ++ 32 :: joinN (b :: r))) = _
    rw [show code (a ++ 32 :: joinN (b :: r)) = code a ++ Char.ofNat 32 :: code (joinN (b :: r)) from by simp [code], words_more a _ h'.1, ih]; rfl

def cutWords : List (List Nat) := [[104, 97, 114, 110, 101, 115, 115],
  [99, 55, 102, 55, 51, 55, 100, 97, 54, 53, 53, 56, 55, 54, 50, 99, 53, 97, 52, 53, 49, 55, 48, 53, 51, 55, 101, 99, 53, 102, 53, 98, 51, 101, 100, 50, 99, 100, 48, 48, 99, 56, 102, 54, 101, 98, 100, 49, 48, 48, 56, 50, 52, 54, 53, 99, 102, 100, 57, 55, 99, 97, 50, 100],
  [99, 117, 116],
  [97, 116],
  [116, 114, 97, 110, 115, 104, 105, 112, 47, 116, 114, 97, 110, 115, 104, 105, 112, 108, 97, 119, 48, 57, 46, 82, 101, 97, 100, 69, 120, 97, 99, 116],
  [116, 114, 97, 110, 115, 104, 105, 112, 47, 116, 114, 97, 110, 115, 104, 105, 112, 108, 97, 119, 49, 55, 46, 83, 105, 103, 69, 120, 97, 99, 116],
  [116, 114, 97, 110, 115, 104, 105, 112, 47, 116, 114, 97, 110, 115, 104, 105, 112, 108, 97, 119, 49, 55, 46, 83, 105, 103, 83, 104, 97, 112, 101],
  [116, 114, 97, 110, 115, 104, 105, 112, 47, 116, 114, 97, 110, 115, 104, 105, 112, 108, 97, 119, 49, 55, 46, 83, 105, 103, 76, 101, 118, 101, 108, 115]]

set_option maxRecDepth 100000 in
theorem cut_words : wordsSigns Tryd.prog.initOrder.toList = cutWords.map code := by
  have h : Tryd.prog.initOrder.toList = code (joinN cutWords) := by
    show (String.ofList (code (joinN cutWords))).toList = _
    exact String.toList_ofList
  rw [h]
  exact words_join cutWords (by simp [cutWords]) (by decide +kernel)

theorem cut_behind : behindMainWord (cutWords.map code) = code [99, 117, 116] :: cutWords.tail.tail.tail.map code := by kernel_rfl
theorem cut_lifts : stripLifts liftWords (code [99, 117, 116] :: cutWords.tail.tail.tail.map code) = ([], code [99, 117, 116] :: cutWords.tail.tail.tail.map code) := by kernel_rfl
theorem cut1 : (code [99, 117, 116] == "gc".toList) = false := by kernel_rfl
theorem cut2 : (code [99, 117, 116] == "spec".toList) = false := by kernel_rfl
theorem cut3 : (code [99, 117, 116] == "cut".toList) = true := by kernel_rfl
theorem cut_all : behindMainWord (wordsSigns Tryd.prog.initOrder.toList) = code [99, 117, 116] :: cutWords.tail.tail.tail.map code := by rw [cut_words, cut_behind]
theorem make_of (P : Program) {c : List Char} {rest : List (List Char)} (h : behindMainWord (wordsSigns P.initOrder.toList) = c :: rest) (h1 : (c == "gc".toList) = false) (h2 : (c == "spec".toList) = false) (h3 : (c == "cut".toList) = true) : P.make = some .cut := by
  unfold Program.make; rw [h]
  simp only [h1, h2, h3, Bool.or_self, Bool.false_eq_true, if_false, Bool.true_or, if_true]
theorem mayEnter_of (P : Program) {c : List Char} {rest : List (List Char)} (h : behindMainWord (wordsSigns P.initOrder.toList) = c :: rest) (h3 : ((stripLifts liftWords (c :: rest)).2.head? == some "cut".toList) = true)
    (h4 : (stripLifts liftWords (c :: rest)).1 = []) (h5 : P.laysLater = false) (h6 : P.bearsReflect = false) (h7 : P.doorFits [] = true) : P.mayEnter = true := by
  unfold Program.mayEnter; rw [h]
  refine Bool.or_eq_true_iff.2 (Or.inr ?_)
  rw [h3, h4, h5, h6, h7]; rfl
theorem row_make : Tryd.prog.make = some .cut := make_of Tryd.prog cut_all cut1 cut2 cut3
theorem row_mayEnter : Tryd.prog.mayEnter = true := mayEnter_of Tryd.prog cut_all (by rw [cut_lifts]; kernel_rfl) (by rw [cut_lifts]) (by kernel_rfl) (by kernel_rfl) (by kernel_rfl)
theorem row_lifts : Tryd.prog.liftsFinal = false := by unfold Program.liftsFinal Program.headLifts; rw [cut_all, cut_lifts]; kernel_rfl
end Go.Proofs.YtpekceadjcbphaaDoor

namespace Go.Proofs.YtpekceadjcbphaaDoor.lawSigShape
open Go.ChangeShapes Go.WideShapes Go.ChangeAt Go.RowKit Go.ChangeMaps

set_option maxRecDepth 100000 in
theorem lifted (os : Os) (started : os.Started) (H : Type) (enc : TypeId × Value → H) :
    ReturnsInHanded {} Tryd.checked os 5 .any (fun w args => (Rows.sigShapeSpec.pre enc Tryd.prog Tryd.f5 [] false w args ∧ laidMetH Tryd.prog laidT w) ∧ sizedMet enc Tryd.prog Tryd.f5 (OpenSpec.ofChange Rows.sigShapeSpec) false w args)
      (Rows.sigShapeSpec.post enc Tryd.prog Tryd.f5 false true false false) := by
  refine returnsInHanded_of_change_and (C := Tryd.checked) (X := fun w _ => laidMetH Tryd.prog laidT w) (fun _ _ _ hh h => h.of_heap hh) own started (by kernel_rfl) Tryd.func5
    (ChangeSpec.witness_shaped (enc := enc) (C := Tryd.checked) (os := os) (X := fun w _ => laidMetH Tryd.prog laidT w) false (World.doorLaid Tryd.prog 400 os) #[.int .i64 0, .int .i64 0, .int .i64 0] 8 rfl (World.shaped_of_RefB (by kernel_rfl) (by kernel_rfl)) (by kernel_rfl) (by kernel_rfl) (by kernel_rfl) (door_met os _)) ?_
  intro W base args ds gs before hval0 hW _ _ hL _
  have hval : ∀ (j : Nat) t v, Tryd.f5.params[j]? = some t → args[j]? = some v → Value.okWide Tryd.prog W .any base t v := hval0
  have hW' := hW
  obtain ⟨p, q, hA0, hV, rfl, hfz, hnd⟩ := hW
  have hA : DataW.TrodAll enc Tryd.prog W 0 (fun _ => true) true Tryd.f5.params.toList args.toList ds p := hA0
  rw [Tryd.params5] at hA hval
  obtain ⟨v0, vs0, d0, ds0, p0, q0, hargs0, rfl, rfl, h0, r0⟩ := trodAll_cons hA
  obtain ⟨v1, vs1, d1, ds1, p1, q1, hargs1, rfl, rfl, h1, r1⟩ := trodAll_cons r0
  obtain ⟨v2, vs2, d2, ds2, p2, q2, hargs2, rfl, rfl, h2, r2⟩ := trodAll_cons r1
  obtain ⟨rfl, rfl, rfl⟩ := trodAll_nil r2
  obtain rfl : args = #[v0, v1, v2] := by cases args; simp_all
  obtain ⟨rfl, rfl⟩ := trodVars_none hV
  obtain ⟨a0, rfl, rfl, rfl, w0⟩ := open_int Tryd.underlying3 (hval 0 3 v0 rfl rfl) h0
  obtain ⟨a1, rfl, rfl, rfl, w1⟩ := open_int Tryd.underlying3 (hval 1 3 v1 rfl rfl) h1
  obtain ⟨a2, rfl, rfl, rfl, w2⟩ := open_int Tryd.underlying3 (hval 2 3 v2 rfl rfl) h2
  clear hA0 hval0
  simp only [List.append_nil] at hW'
  have hT := tabsR_of_laid hL
  refine (Sg.sigShape_any a0 a1 a2 W hT).mono fun e W' ⟨he, hb⟩ => ?_
  subst he
  exact ⟨_, rfl, _, _, _, [], _, [], hW', trodAll_cons_mk (shut_bool Tryd.underlying4 _) trodAll_mk0, (trodAll_cons_mk (shut_int Tryd.underlying3 w0) (trodAll_cons_mk (shut_int Tryd.underlying3 w1) (trodAll_cons_mk (shut_int Tryd.underlying3 w2) trodAll_mk0))), rfl, hb.frame _, fun h => by cases h⟩

theorem closed : joinedFacts Tryd.prog 5 Tryd.f5 Rows.sigShapeSpec Rows.sigShapeRow = true := by
  unfold joinedFacts
  rw [row_mayEnter, row_lifts, row_make]
  kernel_rfl
theorem sigShape_holds : Rows.SigShapeSaid :=
  OpenClaim.holds_of_wide 5 Tryd.f5 rfl rfl rfl rfl rfl rfl rfl ⟨rfl, rfl, rfl, rfl, rfl⟩ rfl rfl rfl rfl rfl (by kernel_rfl) Tryd.func5 closed
    (of_decide_eq_true (by kernel_rfl)) (by unfold Func.isWrapper; first | (rw [if_pos (by decide +kernel)]; kernel_rfl) | (rw [if_neg (by decide +kernel)]; exact ⟨rfl, rfl⟩))
    (fun os started H enc _ => lifted os started H enc)
theorem proved : Rows.SigShapeCardSaid :=
  Claim7.holds_tied_plain_at .later [] [.data, .data] true Rows.sigShapeCard.stood.harness true
    sigShape_holds (fun _ h => by cases h) (by kernel_rfl) (fun _ h => by cases h) sigShape_row_tie rfl ⟨rfl, rfl⟩ (by kernel_rfl) rfl
    (fun f fn hf hfn => by
      obtain rfl : f = 5 := Option.some.inj ((show Tryd.prog.funcNamed "tranship/transhiplaw17.SigShape" = some 5 by kernel_rfl).symm.trans hf) |>.symm
      obtain rfl : fn = Tryd.f5 := (Option.some.inj (Tryd.func5.symm.trans hfn)).symm
      exact ⟨by kernel_rfl, fun j t ht => by
        rw [Tryd.params5] at ht
        have hm : t ∈ [3, 3, 3] := by simpa using Array.mem_of_getElem? ht
        have hall : ([3, 3, 3].all fun u => !Tryd.prog.wantsStandIn u) = true := by kernel_rfl
        exact (show Tryd.prog.wantsStandIn t = false by simpa using List.all_eq_true.1 hall t hm)⟩)
    (by kernel_rfl)
#print axioms proved
end Go.Proofs.YtpekceadjcbphaaDoor.lawSigShape
