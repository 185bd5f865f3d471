/-
  Facts and contracts that the proof of WriteFixed uses.
-/
import Derived.Lib.ItoaNum
import Derived.Lib.ItoaLen
import Derived.Test.YtllkackipdcekaaDoorRows
import Derived.WalkKit
import Derived.Lib.Hide
import Derived.KernelRfl
import Derived.Deep.RegionWith
import Derived.Deep.RegionHeld3
import Derived.Test.YtllkackipdcekaaDoorShelf
import Derived.ProofKit
import Derived.Lib.AppendIntMem
import Derived.Lib.LaidTab
import Derived.Below
import Derived.Lib.Builder
import Derived.Lib.AppendStr
import Derived.Lib.UnsafeStr
import Derived.Lib.Strings
import Derived.Laws.Externs
import Derived.Laws.Rows
import Derived.Shelf.RegionOpenPlain
import Derived.OrdersHeld
import Derived.Laws.OwnMore
import Derived.OwnWalk
import Derived.LoopTactic
import Derived.IntWalk
import Derived.Laws.Strings2
import Derived.Deep.AppendLies
import Derived.WalkSmall
import Derived.Maps.GroupsBeside
import Derived.Maps.StringElems
import Derived.Deep.RegionLaw
import Derived.Maps.AppendAt
import Derived.Deep.Cut
import Derived.Deep.DeepCutAuto
import Derived.Maps.OwnOps
import Derived.Maps.OwnSet
import Derived.Lib.MinMax
import Derived.Laws.IdiomCopy
import Derived.Deep.Slices
import Derived.Lib.QuietBelow
import Derived.StillTailTactics
import Derived.BigQuiet
import Derived.Recover
import Derived.RegionTactic
import Derived.Defers
import Derived.Deep.QuietTactic
import Derived.OpenShut
import Derived.Carry
import Derived.LaidMore
import Derived.LaidSub
import Derived.LaidHandle
import Derived.Stop.Joined
import Derived.JoinedOf
import Derived.Test.YtllkackipdcekaaDoorCards
import Derived.Test.YtllkackipdcekaaDoorTie
import Derived.SevenTiedAt
import Derived.ChangeMaps5
import Derived.Test.YtllkackipdcekaaDoorWriteFixedQ3
namespace Go.Proofs.YtllkackipdcekaaDoor
open Go.RowKit Go.Maps Go.ChangeShapes

theorem kids_small (k n : Int) : kidsN k n ≤ 40 := by
  unfold kidsN givenN
  (repeat' split) <;> omega
def boxK (k i j n : Int) : Obj := .cells #[.int .i64 k, .int .i64 i, .int .i64 j, .int .i64 n, .slice none 0 0] 26
/-- The state of the kids' loop: p kids are read. -/
structure KSt (c : RC) (s : Nat) (N : Names) (w0 : World) (b g cnt p : Nat) (bx : Obj) (l : List Tm) (r : List Tok) (wr : World) : Prop where
  st : RSt c s N r wr
  fr : Fr c w0 wr
  tab : TabsR c.B wr
  box : wr.heap[b]? = some bx
  full : ∃ xs : List (Tm × Value), xs.length = cnt ∧ Full w0.heap.size wr g xs ∧ (xs.map (·.1)).take p = l
theorem kidsP_step (tp : Int → Names → List Tok → Except Nat (Tm × List Tok)) (k own : Int) (x : List UInt8) (p cnt : Nat) (N : Names) (r : List Tok) (h : p < cnt) : kidsP tp k own x p (cnt - p) N r = (match tp (if k = 12 ∧ p = 2 then 2 else own) (if bindsN k p = 0 then N else x :: N) r with
    | .error e => .error e
    | .ok (t, q) => match kidsP tp k own x (p + 1) (cnt - (p + 1)) N q with
      | .error e => .error e
      | .ok (l, q2) => .ok (t :: l, q2)) := by
  rw [show cnt - p = (cnt - (p + 1)) + 1 by omega]
  rfl
/-- What is still to come, behind what is read. -/
def kidsRest (l : List Tm) (x : Except Nat (List Tm × List Tok)) : Except Nat (List Tm × List Tok) := match x with
  | .error e => .error e
  | .ok (m, r) => .ok (l ++ m, r)
theorem KSt.on {c : RC} {s s' : Nat} {N N' : Names} {w0 wr w' : World} {b g cnt p : Nat} {bx : Obj} {l : List Tm} {r r' : List Tok} {cs : Array Value} (h : KSt c s N w0 b g cnt p bx l r wr) (hf : Fr c wr w') (hs : RSt c s' N' r' w') (hbx : bx = .cells cs 26 (0, 0)) : KSt c s' N' w0 b g cnt p bx l r' w' := by
  subst hbx
  obtain ⟨xs, h1, h2, h3⟩ := h.full
  exact ⟨hs, h.fr.trans hf, h.tab.keep hf.below, hf.kept _ _ _ _ h.box (by decide) (by decide) (by decide), xs, h1, full_fr h2 hf, h3⟩
theorem KSt.put {c : RC} {s s' : Nat} {N N' : Names} {w0 wr w2 : World} {b g cnt p : Nat} {bx : Obj} {l : List Tm} {r r' : List Tok} {u : Tm} {a : Option Addr} {cap : Nat} {cs : Array Value} (h : KSt c s N w0 b g cnt p bx l r wr) (hf : Fr c wr w2) (hs : RSt c s' N' r' w2) (hbx : bx = .cells cs 26 (0, 0)) (hp : p < cnt) (hlo : c.B ≤ w0.heap.size) (hbg : b < g)
    (hfi : u.fine) (hli : LiesP w2 (Own wr.heap.size w2) u.kids (.slice a u.kids.length cap)) :
    KSt c s' N' w0 b g cnt (p + 1) bx (l ++ [u]) r' (put5 w2 g (p * 5) u (.slice a u.kids.length cap)) ∧ (w2.cell? ⟨g, p * 5, none⟩).isSome ∧ (w2.cell? ⟨g, p * 5 + 1, none⟩).isSome ∧ (w2.cell? ⟨g, p * 5 + 2, none⟩).isSome ∧ (w2.cell? ⟨g, p * 5 + 3, none⟩).isSome ∧ (w2.cell? ⟨g, p * 5 + 4, none⟩).isSome ∧ ∃ cs, w2.heap[g]? = some (.cells cs 26 (0, 0)) := by
  obtain ⟨xs, hl, hfu0, hx⟩ := h.full
  have h2 := h.on hf hs hbx
  have hfu := full_fr hfu0 hf
  have hg : w2.grownBy (put5 w2 g (p * 5) u (.slice a u.kids.length cap)) (some g) := cell5_grown w2 g (p * 5) _ _ _ _ _
  have hli2 := hfu0.fresh (by have := h.fr.size; omega) hli
  obtain ⟨cs, hcs⟩ := hfu.open'
  have hfr := h2.fr.other hg hfu.above hlo
  have hnd := hfu.node p (by omega)
  refine ⟨⟨h2.st.other hg hcs (Nat.le_trans hlo hfu.above), hfr, h2.tab.keep ⟨hg.os, hg.tape, hg.output, hg.size, fun k hk => hg.block k (by have := h2.st.lo; omega) (fun e => by have := Option.some.inj e; have := hfu.above; omega)⟩, ?_, xs.set p (u, .slice a u.kids.length cap), by simpa using hl, hfu.fill (by omega) hfi hli2, ?_⟩, by rw [hnd.c0]; rfl, by rw [hnd.c1]; rfl, by rw [hnd.c2]; rfl, by rw [hnd.c3]; rfl, by rw [hnd.c4]; rfl, cs, hcs⟩
  · rw [hg.block b (hlt_of h2.box) (fun e => by have := Option.some.inj e; omega)]; exact h2.box
  · rw [List.map_set, take_set_next _ _ _ (by simp; omega), hx]
set_option maxHeartbeats 8000000 in
set_option maxRecDepth 20000 in
theorem rkids_any (c : RC) (f : Nat) (tp : Int → Names → List Tok → Except Nat (Tm × List Tok)) (htp : TermC c f tp) (hlen : ∀ s N ts t r, tp s N ts = .ok (t, r) → r.length < ts.length) (k i j n own : Int) (N : Names) (ts : List Tok) (sl : Nat) (w : World) (hf : ts.length < f) (h : RSt c (sl + 100) N ts w) (hT : TabsR c.B w) :
    Calls Tryd.prog 88 #[.pointer (some ⟨c.R, 0, none⟩), tv (.mk k i j n []) (.slice none 0 0), .int .i64 own] w (KidsG c sl N w (kidsK tp c.E k n own N ts)) := by
  obtain ⟨i0, hi, hz0, hz1, hz2⟩ := info_parts info_term
  have HI := Lib.hid (And.intro hi (And.intro hz0 (And.intro hz1 hz2)))
  have hlo := h.lo
  have hB1 := (Below.refl w.heap.size w).alloc (Nat.le_refl _) (boxK k i j n)
  have HF0 := Lib.hid (Fr.later hB1 hlo)
  have HS0 := Lib.hid (h.later hB1)
  have HT0 := Lib.hid (hT.keep HF0.out.below)
  have HB0 := Lib.hid (show (w.alloc (boxK k i j n)).heap[w.heap.size]? = some (boxK k i j n) from alloc_new _ _)
  have HL := Lib.hid htp
  have HLE := Lib.hid hlen
  obtain ⟨r0, r1, r2, r5, rlt⟩ := h.cells
  have hks := kids_small k n
  clear htp h hT hB1 hi hz0 hz1 hz2 hlen
  unfold tv
  go_enter Tryd.func88, Tryd.ntmps88
  go_wp2_with fail
  refine (kids_any k n _).mono ?_
  rintro e w1 ⟨rfl, rfl⟩
  by_cases hn0 : kidsN k n ≤ 0
  · have HV := Lib.hid (show kidsK tp c.E k n own N ts = .ok ([], ts) by unfold kidsK; rw [if_pos hn0])
    go_wp2
    go_ret
    rw [HV.out]
    exact ⟨.slice none 0 0, rfl, liesP_nil _ _, HS0.out.less (by omega), HF0.out⟩
  obtain ⟨cnt, hcnt⟩ : ∃ cnt : Nat, kidsN k n = (cnt : Int) := ⟨(kidsN k n).toNat, by omega⟩
  have hct : (kidsN k n).toNat = cnt := by omega
  have hc0 : 0 < cnt := by omega
  have hc40 : cnt ≤ 40 := by omega
  have hb0 : ¬ ((cnt : Int) ≤ 0) := by omega
  have HV := Lib.hid (show kidsK tp c.E k n own N ts = (if 0 < bindsN k 1 then (match takeT c.E 3 ts with | .error e => .error e | .ok (x, r) => kidsP tp k own x.s 0 cnt N r) else kidsP tp k own [] 0 cnt N ts) by unfold kidsK; rw [if_neg hn0, hct]; split <;> rfl)
  rw [hcnt]
  clear hn0 hct hcnt hks
  obtain ⟨b, hbE⟩ : ∃ b, w.heap.size = b := ⟨_, rfl⟩
  go_upto_region 4 with fail
  go_cut [8] (fun s8 wx => s8 = .string ⟨#[]⟩ ∧ wx = w.alloc (boxK k i j n))
  case first =>
    go_wp2_with fail
    go_meet
    case rel => exact ⟨rfl, rfl⟩
  case rest =>
  obtain ⟨rfl, hw⟩ := hcut
  subst hw
  go_step
  go_step
  go_cut [8] (fun s8 wx => ∃ (x : List UInt8) (r : List Tok), s8 = .string ⟨x.toArray⟩ ∧ Hid ((kidsK tp c.E k n own N ts = kidsP tp k own x 0 cnt N r ∧ x.length ≤ 10000000 ∧ r.length ≤ ts.length) ∧ RSt c (sl + 100) N r wx ∧ Fr c w wx ∧ TabsR c.B wx ∧ wx.heap[b]? = some (boxK k i j n)))
  case first =>
    have b0 : (w.alloc (boxK k i j n)).cell? ⟨b, 0, none⟩ = some (.int .i64 k) := by rw [← hbE, Lib.cell_of_heap HB0.out]; rfl
    go_wp2_with fail
    refine (binds_any _ _ _).mono ?_
    rintro e w1 ⟨rfl, rfl⟩
    obtain ⟨t0, t1, t2, t5, tlt⟩ := HS0.out.cells
    by_cases hb : 0 < bindsN k 1
    · go_wp2_with fail
      refine (HS0.out.rtake 3).mono ?_
      intro e w1 hg
      cases hx : takeT c.E 3 ts with
      | error a =>
        rw [hx] at hg
        obtain ⟨rfl, hf1⟩ := hg
        unfold faultP
        go_wp2
        rw [HV.out, if_pos hb, hx]
        exact ⟨rfl, rfl, HF0.out.trans hf1⟩
      | ok p =>
        obtain ⟨t, q⟩ := p
        rw [hx] at hg
        obtain ⟨rfl, hs1, hf1⟩ := hg
        have hfl := field_tok
        have HX := Lib.hid (show (kidsK tp c.E k n own N ts = kidsP tp k own t.s 0 cnt N q ∧ t.s.length ≤ 10000000 ∧ q.length ≤ ts.length) ∧ RSt c (sl + 100) N q w1 ∧ Fr c w w1 ∧ TabsR c.B w1 ∧ w1.heap[b]? = some (boxK k i j n) from
          ⟨⟨by rw [HV.out, if_pos hb, hx], HS0.out.tokOk hx, by have := takeT_len hx; omega⟩, hs1.less (by omega), HF0.out.trans hf1, HT0.out.keep hf1.below, hf1.kept _ _ _ _ (by rw [← hbE]; exact HB0.out) (by decide) (by decide) (by decide)⟩)
        clear hs1 hf1 hx
        go_wp2_with fail
        go_meet
        case rel => exact ⟨t.s, q, rfl, HX⟩
    · have hbz : bindsN k 1 = 0 := by have := binds_range k 1; omega
      have HBZ := Lib.hid hb
      rw [hbz]
      clear hb hbz
      go_wp2_with fail
      go_meet
      case rel => exact ⟨[], ts, rfl, Lib.hid ⟨⟨by rw [HV.out, if_neg (by have := HBZ.out; omega)], by simp, Nat.le_refl _⟩, HS0.out, HF0.out, HT0.out, by rw [← hbE]; exact HB0.out⟩⟩
  case rest =>
  obtain ⟨x, r, rfl, HX⟩ := hcut
  have hxl := HX.out.1.2.1
  have hsz1 := HX.out.2.2.1.size
  have HBX := Lib.hid HX.out.2.2.2.2
  clear r0 r1 r2 r5 rlt
  go_wp2_with (at_make; refine wpList_make_full _ rfl _ _ 24 rfl w.heap.size 26 i0 _ 5 (by kernel_rfl) HI.out.1 HI.out.2.1 HI.out.2.2.1 _ _ _ _ cnt rfl rfl rfl rfl ?bytes ?max ?base ?next)
  case bytes => rw [HI.out.2.2.2]; omega
  case max => unfold maxLen; omega
  case base => omega
  case next =>
  intro w2 hown hgrow
  obtain ⟨g, hg⟩ : ∃ g, wc.heap.size = g := ⟨_, rfl⟩
  have hful := full_made hown
  have hb2 : Below wc.heap.size wc w2 := Below.grown (Below.refl _ wc) hgrow (Nat.le_refl _) (by simp)
  have hbg : b < g := by have := hlt_of HBX.out; omega
  have HK := Lib.hid (show KSt c (sl + 2 * (cnt - 0)) N w b g cnt 0 (boxK k i j n) [] r w2 from ⟨(HX.out.2.1.later hb2).less (by omega), HX.out.2.2.1.trans (Fr.later hb2 HX.out.2.1.lo), HX.out.2.2.2.1.keep (hb2.mono HX.out.2.1.lo), (hb2.block b (hlt_of HBX.out)).trans HBX.out, _, List.length_replicate, by rw [← hg, hbE]; exact hful, rfl⟩)
  have HQ := Lib.hid HX.out.1
  rw [hg]
  clear hown hgrow hful hb2 HBX HX hg
  go_wp2_with fail
  go_loopw [33] (fun iv wr => ∃ (p : Nat) (l : List Tm) (q : List Tok), p ≤ cnt ∧ iv = .int .i64 p ∧ Hid (KSt c (sl + 2 * (cnt - p)) N w b g cnt p (boxK k i j n) l q wr) ∧ Hid (kidsK tp c.E k n own N ts = kidsRest l (kidsP tp k own x p (cnt - p) N q) ∧ q.length ≤ ts.length ∧ l.length = p)) (fun iv _ => cnt - (intOf iv).toNat)
  case atStart => exact ⟨0, [], r, Nat.zero_le _, rfl, HK, Lib.hid ⟨by rw [HQ.out.1]; cases kidsP tp k own x 0 (cnt - 0) N r with | error e => rfl | ok m => rfl, HQ.out.2.2, rfl⟩⟩
  case round =>
    obtain ⟨p, l, q, hp, rfl, HK, HR⟩ := hrel
    by_cases hlt : p < cnt
    · have b0 : wr.cell? ⟨b, 0, none⟩ = some (.int .i64 k) := by rw [Lib.cell_of_heap HK.out.box]; rfl
      obtain ⟨so, hso⟩ : ∃ so : Int, (if k = 12 ∧ p = 2 then 2 else own) = so := ⟨_, rfl⟩
      have HSO := Lib.hid hso
      have HST := Lib.hid (kidsP_step tp k own x p cnt N q hlt)
      rw [hso] at HST
      clear hso
      go_upto_region 11 with fail
      go_cut [11] (fun s11 wx => s11 = .int .i64 own ∧ wx = wr)
      case first =>
        go_wp2_with fail
        go_meet
        case rel => exact ⟨rfl, rfl⟩
      case rest =>
      obtain ⟨rfl, hw⟩ := hcut
      subst hw
      go_step
      go_step
      go_cut [11] (fun s11 wx => s11 = .int .i64 so ∧ wx = wc)
      case first =>
        by_cases hk12 : k = 12
        · have kb : (k == 12) = true := by simpa using hk12
          by_cases hp2 : p = 2
          · have pb : ((p : Int) == 2) = true := by simp; omega
            have hs2 := HSO.out
            rw [if_pos ⟨hk12, hp2⟩] at hs2
            clear hk12 hp2
            go_wp2_with fail
            go_meet
            case rel => exact ⟨by rw [← hs2], rfl⟩
          · have pb : ((p : Int) == 2) = false := by simp; omega
            have hs2 := HSO.out
            rw [if_neg (by omega)] at hs2
            clear hk12 hp2
            go_wp2_with fail
            go_meet
            case rel => exact ⟨by rw [← hs2], rfl⟩
        · have kb : (k == 12) = false := by simpa using hk12
          have hs2 := HSO.out
          rw [if_neg (by omega)] at hs2
          clear hk12
          go_wp2_with fail
          go_meet
          case rel => exact ⟨by rw [← hs2], rfl⟩
      case rest =>
      obtain ⟨rfl, hw⟩ := hcut
      subst hw
      have hplt : (p : Int) < (cnt : Int) := by omega
      have hps : p * 5 < cnt * 5 := by omega
      go_wp2_with fail
      refine (binds_any _ _ _).mono ?_
      rintro e w3 ⟨rfl, rfl⟩
      by_cases hbn : bindsN k p = 0
      · have HBN := Lib.hid hbn
        rw [hbn]
        clear hbn
        go_wp2_with fail
        have HK3 := Lib.hid (HK.out.on (Fr.refl c wc) (HK.out.st.less (sl' := sl + 2 * (cnt - (p + 1))) (by omega)) rfl)
        refine (HL.out.use so N q (sl + 2 * (cnt - (p + 1))) _ (by have := HR.out.2.1; omega) HK3.out.st HK3.out.tab).mono ?_
        intro e w4 hg
        cases hx : tp so N q with
        | error a =>
          rw [hx] at hg
          obtain ⟨rfl, hf4⟩ := hg
          unfold faultP
          go_wp2
          rw [HR.out.1, HST.out, if_pos HBN.out, hx]
          exact ⟨rfl, rfl, HK3.out.fr.trans hf4⟩
        | ok m =>
          obtain ⟨u, q2⟩ := m
          rw [hx] at hg
          obtain ⟨s, rfl, hl4, hfi4, hs4, hf4⟩ := hg
          obtain ⟨au, cu, rfl, -, -⟩ := hl4.out
          have HX4 := Lib.hid hx
          have HLN := Lib.hid (HLE.out _ _ _ _ _ hx)
          obtain ⟨hK5, c0, c1, c2, c3, c4, cs, hcs⟩ := HK3.out.put hf4 hs4 rfl hlt hlo hbg hfi4 hl4
          obtain ⟨y0, c0⟩ := Option.isSome_iff_exists.1 c0
          obtain ⟨y1, c1⟩ := Option.isSome_iff_exists.1 c1
          obtain ⟨y2, c2⟩ := Option.isSome_iff_exists.1 c2
          obtain ⟨y3, c3⟩ := Option.isSome_iff_exists.1 c3
          obtain ⟨y4, c4⟩ := Option.isSome_iff_exists.1 c4
          have HK5 := Lib.hid hK5
          have f0 : w4.frozen? ⟨g, p * 5, none⟩ = false := Lib.frozen_of_heap hcs (p * 5)
          have f1 : w4.frozen? ⟨g, p * 5 + 1, none⟩ = false := Lib.frozen_of_heap hcs (p * 5 + 1)
          have f2 : w4.frozen? ⟨g, p * 5 + 2, none⟩ = false := Lib.frozen_of_heap hcs (p * 5 + 2)
          have f3 : w4.frozen? ⟨g, p * 5 + 3, none⟩ = false := Lib.frozen_of_heap hcs (p * 5 + 3)
          have f4 : w4.frozen? ⟨g, p * 5 + 4, none⟩ = false := Lib.frozen_of_heap hcs (p * 5 + 4)
          have hRR := Lib.hid (show kidsK tp c.E k n own N ts = kidsRest (l ++ [u]) (kidsP tp k own x (p + 1) (cnt - (p + 1)) N q2) ∧ q2.length ≤ ts.length ∧ (l ++ [u]).length = p + 1 from ⟨by
            rw [HR.out.1, HST.out, if_pos HBN.out, HX4.out]
            simp only
            cases kidsP tp k own x (p + 1) (cnt - (p + 1)) N q2 with
            | error e => rfl
            | ok m => simp [kidsRest], by have := HLN.out; have := HR.out.2.1; omega, by simp; exact HR.out.2.2⟩)
          clear hl4 hfi4 hs4 hf4 hx hcs hK5
          unfold tv
          go_wp2
          go_roundw
          case rel => exact ⟨p + 1, l ++ [u], q2, by omega, by go_num, HK5, hRR⟩
          case measure => simp [intOf]; omega
      · have HBN := Lib.hid hbn
        have hbb : (bindsN k p == 0) = false := by simpa using hbn
        clear hbn
        go_wp2_with fail
        refine (bind_any c (sl + 2 * (cnt - (p + 1)) + 1) x N q wc (HK.out.st.less (by omega)) hxl).mono ?_
        rintro e w3 ⟨rfl, hs3, hf3⟩
        have HK3 := Lib.hid (HK.out.on hf3 hs3 rfl)
        clear hs3 hf3 b0
        go_wp2_with fail
        refine (HL.out.use so (x :: N) q (sl + 2 * (cnt - (p + 1)) + 1) _ (by have := HR.out.2.1; omega) HK3.out.st HK3.out.tab).mono ?_
        intro e w4 hg
        cases hx : tp so (x :: N) q with
        | error a =>
          rw [hx] at hg
          obtain ⟨rfl, hf4⟩ := hg
          unfold faultP
          go_wp2
          rw [HR.out.1, HST.out, if_neg HBN.out, hx]
          exact ⟨rfl, rfl, HK3.out.fr.trans hf4⟩
        | ok m =>
          obtain ⟨u, q2⟩ := m
          rw [hx] at hg
          obtain ⟨s, rfl, hl4, hfi4, hs4, hf4⟩ := hg
          obtain ⟨au, cu, rfl, -, -⟩ := hl4.out
          have HX4 := Lib.hid hx
          have HLN := Lib.hid (HLE.out _ _ _ _ _ hx)
          obtain ⟨hK5, c0, c1, c2, c3, c4, cs, hcs⟩ := HK3.out.put hf4 hs4 rfl hlt hlo hbg hfi4 hl4
          obtain ⟨y0, c0⟩ := Option.isSome_iff_exists.1 c0
          obtain ⟨y1, c1⟩ := Option.isSome_iff_exists.1 c1
          obtain ⟨y2, c2⟩ := Option.isSome_iff_exists.1 c2
          obtain ⟨y3, c3⟩ := Option.isSome_iff_exists.1 c3
          obtain ⟨y4, c4⟩ := Option.isSome_iff_exists.1 c4
          have HK5 := Lib.hid hK5
          have f0 : w4.frozen? ⟨g, p * 5, none⟩ = false := Lib.frozen_of_heap hcs (p * 5)
          have f1 : w4.frozen? ⟨g, p * 5 + 1, none⟩ = false := Lib.frozen_of_heap hcs (p * 5 + 1)
          have f2 : w4.frozen? ⟨g, p * 5 + 2, none⟩ = false := Lib.frozen_of_heap hcs (p * 5 + 2)
          have f3 : w4.frozen? ⟨g, p * 5 + 3, none⟩ = false := Lib.frozen_of_heap hcs (p * 5 + 3)
          have f4 : w4.frozen? ⟨g, p * 5 + 4, none⟩ = false := Lib.frozen_of_heap hcs (p * 5 + 4)
          have hRR := Lib.hid (show kidsK tp c.E k n own N ts = kidsRest (l ++ [u]) (kidsP tp k own x (p + 1) (cnt - (p + 1)) N q2) ∧ q2.length ≤ ts.length ∧ (l ++ [u]).length = p + 1 from ⟨by
            rw [HR.out.1, HST.out, if_neg HBN.out, HX4.out]
            simp only
            cases kidsP tp k own x (p + 1) (cnt - (p + 1)) N q2 with
            | error e => rfl
            | ok m => simp [kidsRest], by have := HLN.out; have := HR.out.2.1; omega, by simp; exact HR.out.2.2⟩)
          clear hl4 hfi4 hs4 hf4 hx hcs hK5
          unfold tv
          go_wp2_with fail
          refine (unbind_any c (sl + 2 * (cnt - (p + 1))) x N q2 _ HK5.out.st hxl HK.out.st.inner).mono ?_
          rintro e w6 ⟨rfl, hs6, hf6⟩
          have HK6 := Lib.hid (HK5.out.on hf6 hs6 rfl)
          clear hs6 hf6 c0 c1 c2 c3 c4 f0 f1 f2 f3 f4
          go_wp2
          go_roundw
          case rel => exact ⟨p + 1, l ++ [u], q2, by omega, by go_num, HK6, hRR⟩
          case measure => simp [intOf]; omega
    · obtain rfl : p = cnt := by omega
      obtain ⟨xs, hxs, hfu, htk⟩ := HK.out.full
      go_wp2
      go_ret
      have hcz : p - p = 0 := by omega
      have h1 := HR.out.1
      rw [hcz] at h1
      have h2 : kidsK tp c.E k n own N ts = .ok (l, q) := by rw [h1]; simp [kidsRest, kidsP]
      rw [h2]
      have hle : xs.map (·.1) = l := by rw [← htk, List.take_of_length_le (by simp; omega)]
      have hll := hfu.lies (cap := p) (by omega) (by unfold maxLen; omega)
      rw [hle, hxs] at hll
      exact ⟨_, rfl, hll, HK.out.st.less (by omega), HK.out.fr⟩
end Go.Proofs.YtllkackipdcekaaDoor

namespace Go.Proofs.YtllkackipdcekaaDoor
open Go.RowKit Go.Maps Go.ChangeShapes

/-- A term that was read lies in a box. -/
structure BoxT (B : Nat) (w : World) (b : Nat) (t : Tm) (s : Value) : Prop where
  box : w.heap[b]? = some (.cells #[.int .i64 t.k, .int .i64 t.i, .int .i64 t.j, .int .i64 t.n, s] 26 (0, 0))
  kids : LiesP w (Own B w) t.kids s
  fine : t.fine
theorem BoxT.fr {c : RC} {B : Nat} {w w' : World} {b : Nat} {t : Tm} {s : Value} (h : BoxT B w b t s) (hf : Fr c w w') : BoxT B w' b t s := ⟨hf.kept _ _ _ _ h.box (by decide) (by decide) (by decide), liesP_fr h.kids hf, h.fine⟩
theorem BoxT.below {B : Nat} {w w' : World} {b : Nat} {t : Tm} {s : Value} (h : BoxT B w b t s) (hb : Below w.heap.size w w') : BoxT B w' b t s := ⟨(hb.block _ (hlt_of h.box)).trans h.box, h.kids.later hb, h.fine⟩
theorem boxT_new {B : Nat} {w : World} {t : Tm} {s : Value} (h : LiesP w (Own B w) t.kids s) (hf : t.fine) : BoxT B (w.alloc (.cells #[.int .i64 t.k, .int .i64 t.i, .int .i64 t.j, .int .i64 t.n, s] 26)) w.heap.size t s := ⟨alloc_new _ _, h.later ((Below.refl _ w).alloc (Nat.le_refl _) _), hf⟩
theorem al (w : World) (o : Obj) : Below w.heap.size w (w.alloc o) := (Below.refl _ w).alloc (Nat.le_refl _) o
/-- Six boxed terms, laid into a list. -/
theorem six_made {B : Nat} {w : World} (hB : B ≤ w.heap.size) {ps : List (Tm × Value)} (h6 : ps.length = 6) (hf : ∀ p ∈ ps, p.1.fine) (hk : ∀ p ∈ ps, LiesP w (Own B w) p.1.kids p.2) :
    LiesP (w.alloc (.cells (cells5 ps).toArray 26)) (Own B (w.alloc (.cells (cells5 ps).toArray 26))) (ps.map (·.1)) (.slice (some ⟨w.heap.size, 0, none⟩) 6 6) := by
  have hown := World.ownsRow_lit (base := B) (e := 26) (size := 5) w (cells5 ps).toArray 6 hB (by decide) (by simp [cells5_length, h6])
  refine made_lies (B := B) (v := .slice (some ⟨w.heap.size, 0, none⟩) 6 6) (ps := ps) ⟨by rw [h6]; simpa using hown, hf, fun p hp => ?_⟩
  exact (hk p hp).keep (fun b _ hlt => (al w (.cells (cells5 ps).toArray 26)).block b hlt) (fun b hb hlt => ⟨hb.later (al w _), fun e => by have e2 : w.heap.size = b := Option.some.inj e; omega⟩)
def j2_0 : Oper := { dst := some 14, op := Go.Op.move (Go.Operand.tmp 0), type := 95, pos := "read.go:189", after := #[], guard := none }
def j2_1 : Oper := { dst := some 15, op := Go.Op.nilCheck (Go.Operand.tmp 14), type := 0, pos := "read.go:189", after := #[{ on := 0, ground := Go.Ground.data }], guard := none }
def j2_2 : Oper := { dst := some 16, op := Go.Op.fieldAddr 69 (Go.Operand.tmp 15) 0, type := 0, pos := "read.go:189", after := #[{ on := 1, ground := Go.Ground.data }], guard := none }
def j2_3 : Oper := { dst := some 17, op := Go.Op.load 64 (Go.Operand.tmp 16), type := 64, pos := "read.go:189", after := #[{ on := 2, ground := Go.Ground.data }], guard := none }
def j2_4 : Oper := { dst := some 18, op := Go.Op.call { callee := Go.Callee.value (Go.Operand.func 66), args := #[Go.Operand.tmp 17, Go.Operand.const (Go.Value.int Go.IntKind.i64 3)], argTypes := #[64, 3] }, type := 97, pos := "read.go:189", after := #[{ on := 3, ground := Go.Ground.data }], guard := none }
def j2_5 : Oper := { dst := some 19, op := Go.Op.field 97 (Go.Operand.tmp 18) 1, type := 9, pos := "read.go:189", after := #[{ on := 4, ground := Go.Ground.data }], guard := none }
def j2_6 : Oper := { dst := some 20, op := Go.Op.move (Go.Operand.tmp 0), type := 95, pos := "read.go:189", after := #[], guard := none }
def j2_7 : Oper := { dst := some 21, op := Go.Op.nilCheck (Go.Operand.tmp 20), type := 0, pos := "read.go:189", after := #[{ on := 6, ground := Go.Ground.data }], guard := none }
def j2_8 : Oper := { dst := some 22, op := Go.Op.fieldAddr 69 (Go.Operand.tmp 21) 0, type := 0, pos := "read.go:189", after := #[{ on := 7, ground := Go.Ground.data }], guard := none }
def j2_9 : Oper := { dst := some 23, op := Go.Op.load 64 (Go.Operand.tmp 22), type := 64, pos := "read.go:189", after := #[{ on := 8, ground := Go.Ground.data }], guard := none }
def j2_10 : Oper := { dst := some 24, op := Go.Op.call { callee := Go.Callee.value (Go.Operand.func 66), args := #[Go.Operand.tmp 23, Go.Operand.const (Go.Value.int Go.IntKind.i64 3)], argTypes := #[64, 3] }, type := 97, pos := "read.go:189", after := #[{ on := 9, ground := Go.Ground.data }, { on := 4, ground := Go.Ground.chain }], guard := none }
def j2_11 : Oper := { dst := some 25, op := Go.Op.field 97 (Go.Operand.tmp 24) 1, type := 9, pos := "read.go:189", after := #[{ on := 10, ground := Go.Ground.data }, { on := 12, ground := Go.Ground.gcOnly Go.Departure.lateStores }], guard := none }
def j2_12 : Oper := { dst := some 5, op := Go.Op.assign (Go.Operand.tmp 19), type := 9, pos := "read.go:189", after := #[{ on := 5, ground := Go.Ground.data }, { on := 10, ground := Go.Ground.chain }, { on := 0, ground := Go.Ground.phase }, { on := 1, ground := Go.Ground.phase }, { on := 2, ground := Go.Ground.phase }, { on := 3, ground := Go.Ground.phase }, { on := 4, ground := Go.Ground.phase }, { on := 5, ground := Go.Ground.phase }, { on := 6, ground := Go.Ground.textOnly Go.Departure.lateStores }, { on := 7, ground := Go.Ground.textOnly Go.Departure.lateStores }, { on := 8, ground := Go.Ground.textOnly Go.Departure.lateStores }, { on := 9, ground := Go.Ground.textOnly Go.Departure.lateStores }, { on := 10, ground := Go.Ground.textOnly Go.Departure.lateStoresUnsure }, { on := 11, ground := Go.Ground.textOnly Go.Departure.lateStores }], guard := none }
def j2_13 : Oper := { dst := some 6, op := Go.Op.assign (Go.Operand.tmp 25), type := 9, pos := "read.go:189", after := #[{ on := 11, ground := Go.Ground.data }, { on := 12, ground := Go.Ground.chain }, { on := 0, ground := Go.Ground.phase }, { on := 1, ground := Go.Ground.phase }, { on := 2, ground := Go.Ground.phase }, { on := 3, ground := Go.Ground.phase }, { on := 4, ground := Go.Ground.phase }, { on := 5, ground := Go.Ground.phase }, { on := 6, ground := Go.Ground.phase }, { on := 7, ground := Go.Ground.phase }, { on := 8, ground := Go.Ground.phase }, { on := 9, ground := Go.Ground.phase }, { on := 10, ground := Go.Ground.phase }, { on := 11, ground := Go.Ground.phase }, { on := 12, ground := Go.Ground.phase }], guard := none }
def j9_0 : Oper := { dst := some 44, op := Go.Op.load 26 (Go.Operand.tmp 3), type := 26, pos := "read.go:196", after := #[], guard := none }
def j9_1 : Oper := { dst := some 45, op := Go.Op.load 26 (Go.Operand.tmp 4), type := 26, pos := "read.go:196", after := #[], guard := none }
def j9_2 : Oper := { dst := some 46, op := Go.Op.load 26 (Go.Operand.tmp 7), type := 26, pos := "read.go:196", after := #[], guard := none }
def j9_3 : Oper := { dst := some 47, op := Go.Op.load 26 (Go.Operand.tmp 8), type := 26, pos := "read.go:196", after := #[], guard := none }
def j9_4 : Oper := { dst := some 48, op := Go.Op.load 26 (Go.Operand.tmp 9), type := 26, pos := "read.go:196", after := #[], guard := none }
def j9_5 : Oper := { dst := some 49, op := Go.Op.move (Go.Operand.tmp 0), type := 95, pos := "read.go:196", after := #[], guard := none }
def j9_6 : Oper := { dst := some 50, op := Go.Op.call { callee := Go.Callee.value (Go.Operand.func 43), args := #[Go.Operand.tmp 49, Go.Operand.const (Go.Value.int Go.IntKind.i64 2)], argTypes := #[95, 3] }, type := 26, pos := "read.go:196", after := #[{ on := 5, ground := Go.Ground.data }], guard := none }
def j9_7 : Oper := { dst := some 51, op := Go.Op.buildSlice 24 6 #[(0, Go.Operand.tmp 44), (1, Go.Operand.tmp 45), (2, Go.Operand.tmp 46), (3, Go.Operand.tmp 47), (4, Go.Operand.tmp 48), (5, Go.Operand.tmp 50)], type := 24, pos := "read.go:196", after := #[{ on := 0, ground := Go.Ground.data }, { on := 1, ground := Go.Ground.data }, { on := 2, ground := Go.Ground.data }, { on := 3, ground := Go.Ground.data }, { on := 4, ground := Go.Ground.data }, { on := 6, ground := Go.Ground.data }], guard := none }
def j9_8 : Oper := { dst := some 2, op := Go.Op.assign (Go.Operand.tmp 51), type := 24, pos := "read.go:196", after := #[{ on := 7, ground := Go.Ground.data }, { on := 6, ground := Go.Ground.chain }, { on := 0, ground := Go.Ground.phase }, { on := 1, ground := Go.Ground.phase }, { on := 2, ground := Go.Ground.phase }, { on := 3, ground := Go.Ground.phase }, { on := 4, ground := Go.Ground.phase }, { on := 5, ground := Go.Ground.phase }, { on := 6, ground := Go.Ground.phase }, { on := 7, ground := Go.Ground.phase }], guard := none }

set_option maxHeartbeats 8000000 in
set_option maxRecDepth 20000 in
theorem rkidsJ_any (c : RC) (f : Nat) (tp : Int → Names → List Tok → Except Nat (Tm × List Tok)) (htp : TermC c f tp) (hlen : ∀ s N ts t r, tp s N ts = .ok (t, r) → r.length < ts.length) (N : Names) (ts : List Tok) (sl : Nat) (w : World) (hf : ts.length < f) (h : RSt c (sl + 100) N ts w) (hT : TabsR c.B w) :
    Calls Tryd.prog 87 #[.pointer (some ⟨c.R, 0, none⟩)] w (KidsG c sl N w (kidsJ tp c.E N ts)) := by
  obtain ⟨du, hu1, hu2⟩ := under_term
  have hlo := h.lo
  have HF0 := Lib.hid (Fr.refl c w)
  have HS0 := Lib.hid h
  have HT0 := Lib.hid hT
  have HL := Lib.hid htp
  have HLE := Lib.hid hlen
  obtain ⟨r0, r1, r2, r5, rlt⟩ := h.cells
  have hfld := field_tok
  clear htp h hT hlen
  go_enter Tryd.func87, Tryd.ntmps87
  go_wp2_with fail
  refine (HL.out.use 2 N ts (sl + 100) _ (by omega) HS0.out HT0.out).mono ?_
  intro e w1 hg
  cases hx : tp 2 N ts with
  | error a =>
    rw [hx] at hg
    obtain ⟨rfl, hf⟩ := hg
    unfold faultP
    go_wp2
    unfold kidsJ; rw [hx]
    exact ⟨rfl, rfl, HF0.out.trans hf⟩
  | ok m =>
  obtain ⟨t1, q1⟩ := m
  rw [hx] at hg
  obtain ⟨s, rfl, hl1, hfi1, hs1, hf1⟩ := hg
  obtain ⟨a1, p1, rfl, -, -⟩ := hl1.out
  have HX1 := Lib.hid hx
  have HLN1 := Lib.hid (HLE.out _ _ _ _ _ hx)
  have HS1 := Lib.hid hs1
  have HF1 := Lib.hid (HF0.out.trans hf1)
  have HT1 := Lib.hid (HT0.out.keep hf1.below)
  have HLL1 := Lib.hid (hl1.from (B' := w.heap.size) (by have := HF0.out.size; omega))
  have HFI1 := Lib.hid hfi1
  clear hl1 hfi1 hs1 hf1 hx r0 r1 r2 r5 rlt
  obtain ⟨r0, r1, r2, r5, rlt⟩ := HS1.out.cells
  unfold tv
  go_wp2_with fail
  refine (HL.out.use 2 N q1 (sl + 100) _ (by have := HLN1.out; omega) HS1.out HT1.out).mono ?_
  intro e w2 hg
  cases hx : tp 2 N q1 with
  | error a =>
    rw [hx] at hg
    obtain ⟨rfl, hf⟩ := hg
    unfold faultP
    go_wp2
    unfold kidsJ; rw [HX1.out]; simp only; rw [hx]
    exact ⟨rfl, rfl, HF1.out.trans hf⟩
  | ok m =>
  obtain ⟨t2, q2⟩ := m
  rw [hx] at hg
  obtain ⟨s, rfl, hl2, hfi2, hs2, hf2⟩ := hg
  obtain ⟨a2, p2, rfl, -, -⟩ := hl2.out
  have HX2 := Lib.hid hx
  have HLN2 := Lib.hid (HLE.out _ _ _ _ _ hx)
  have HS2 := Lib.hid hs2
  have HF2 := Lib.hid (HF1.out.trans hf2)
  have HT2 := Lib.hid (HT1.out.keep hf2.below)
  have HLL2 := Lib.hid (hl2.from (B' := w.heap.size) (by have := HF1.out.size; omega))
  have HFI2 := Lib.hid hfi2
  have HLL1 := Lib.hid (liesP_fr HLL1.out hf2)
  clear hl2 hfi2 hs2 hf2 hx r0 r1 r2 r5 rlt
  obtain ⟨r0, r1, r2, r5, rlt⟩ := HS2.out.cells
  unfold tv
  go_wp2_with fail
  have hal1 := al w2 (.cells #[.int .i64 t1.k, .int .i64 t1.i, .int .i64 t1.j, .int .i64 t1.n, .slice a1 t1.kids.length p1] 26)
  have hal2 := al (w2.alloc (.cells #[.int .i64 t1.k, .int .i64 t1.i, .int .i64 t1.j, .int .i64 t1.n, .slice a1 t1.kids.length p1] 26)) (.cells #[.int .i64 t2.k, .int .i64 t2.i, .int .i64 t2.j, .int .i64 t2.n, .slice a2 t2.kids.length p2] 26)
  have hal : Below w2.heap.size w2 ((w2.alloc (.cells #[.int .i64 t1.k, .int .i64 t1.i, .int .i64 t1.j, .int .i64 t1.n, .slice a1 t1.kids.length p1] 26)).alloc (.cells #[.int .i64 t2.k, .int .i64 t2.i, .int .i64 t2.j, .int .i64 t2.n, .slice a2 t2.kids.length p2] 26)) := hal1.trans (hal2.mono (by simp))
  have BX3 := Lib.hid ((boxT_new HLL1.out HFI1.out).below hal2)
  have BX4 := Lib.hid (show BoxT w.heap.size ((w2.alloc (.cells #[.int .i64 t1.k, .int .i64 t1.i, .int .i64 t1.j, .int .i64 t1.n, .slice a1 t1.kids.length p1] 26)).alloc (.cells #[.int .i64 t2.k, .int .i64 t2.i, .int .i64 t2.j, .int .i64 t2.n, .slice a2 t2.kids.length p2] 26)) (w2.heap.size + 1) t2 (.slice a2 t2.kids.length p2) from by have h := boxT_new (HLL2.out.later hal1) HFI2.out; rw [World.size_alloc] at h; exact h)
  have HS3 := Lib.hid (HS2.out.later hal)
  have HF3 := Lib.hid (HF2.out.trans (Fr.later hal HS2.out.lo))
  have HT3 := Lib.hid (HT2.out.keep (hal.mono HS2.out.lo))
  clear hal hal1 hal2
  have HSd := Lib.hid HS3.out.drew
  have hR0 := HS3.out.cells.1
  have hR0d := HSd.out.cells.1
  refine wp_region_held_drew (S := fun w' => w'.cell? ⟨c.R, 0, none⟩ = some (.pointer (some ⟨c.S, 0, none⟩))) (by kernel_rfl) ?_ (fun hHeld => ?_)
  · (try dsimp only)
    (first | exact hR5 | exact hR4 | exact hR0d | exact hR0)
  refine take_at 0 14 j2_0 (v := ?_) (Or.inl ⟨by rfl, ?_⟩) ?_
  rotate_left 1
  · ((intro w hSw; (try dsimp only at hSw); unfold j2_0; go_simp) <;> with_reducible rfl)
  (try simp only [Act.put, List.setIfInBounds_toArray, List.set_cons_zero, List.set_cons_succ])
  refine take_at 1 15 j2_1 (v := ?_) (Or.inl ⟨by rfl, ?_⟩) ?_
  rotate_left 1
  · ((intro w hSw; (try dsimp only at hSw); unfold j2_1; go_simp) <;> with_reducible rfl)
  (try simp only [Act.put, List.setIfInBounds_toArray, List.set_cons_zero, List.set_cons_succ])
  refine take_at 2 16 j2_2 (v := ?_) (Or.inl ⟨by rfl, ?_⟩) ?_
  rotate_left 1
  · ((intro w hSw; (try dsimp only at hSw); unfold j2_2; go_simp) <;> with_reducible rfl)
  (try simp only [Act.put, List.setIfInBounds_toArray, List.set_cons_zero, List.set_cons_succ])
  refine take_at 3 17 j2_3 (v := ?_) (Or.inl ⟨by rfl, ?_⟩) ?_
  rotate_left 1
  · ((intro w hSw; (try dsimp only at hSw); unfold j2_3; go_simp) <;> with_reducible rfl)
  (try simp only [Act.put, List.setIfInBounds_toArray, List.set_cons_zero, List.set_cons_succ])
  refine take_at 6 20 j2_6 (v := ?_) (Or.inl ⟨by rfl, ?_⟩) ?_
  rotate_left 1
  · ((intro w hSw; (try dsimp only at hSw); unfold j2_6; go_simp) <;> with_reducible rfl)
  (try simp only [Act.put, List.setIfInBounds_toArray, List.set_cons_zero, List.set_cons_succ])
  refine take_at 7 21 j2_7 (v := ?_) (Or.inl ⟨by rfl, ?_⟩) ?_
  rotate_left 1
  · ((intro w hSw; (try dsimp only at hSw); unfold j2_7; go_simp) <;> with_reducible rfl)
  (try simp only [Act.put, List.setIfInBounds_toArray, List.set_cons_zero, List.set_cons_succ])
  refine take_at 8 22 j2_8 (v := ?_) (Or.inl ⟨by rfl, ?_⟩) ?_
  rotate_left 1
  · ((intro w hSw; (try dsimp only at hSw); unfold j2_8; go_simp) <;> with_reducible rfl)
  (try simp only [Act.put, List.setIfInBounds_toArray, List.set_cons_zero, List.set_cons_succ])
  refine take_at 9 23 j2_9 (v := ?_) (Or.inl ⟨by rfl, ?_⟩) ?_
  rotate_left 1
  · ((intro w hSw; (try dsimp only at hSw); unfold j2_9; go_simp) <;> with_reducible rfl)
  (try simp only [Act.put, List.setIfInBounds_toArray, List.set_cons_zero, List.set_cons_succ])
  refine wpAnyH_ready (rs := [4]) (by kernel_rfl) (by simp) ?_
  refine AllReadyH.cons (o := j2_4) rfl (fun K hK => ?_) ?_
  · unfold j2_4
    go_simp
    (go_at_call 66; with_reducible refine Calls.mono (HSd.out.rtake 3) ?_; intro e w4 hg)
    cases hx : takeT c.E 3 q2 with
    | error a =>
      rw [hx] at hg
      obtain ⟨rfl, hf⟩ := hg
      unfold faultP
      go_wp2
      unfold kidsJ; rw [HX1.out]; simp only; rw [HX2.out]; simp only; rw [hx]
      exact ⟨rfl, rfl, HF3.out.trans ((Fr.drew (Fr.refl c _)).trans hf)⟩
    | ok m =>
    obtain ⟨t4, q4⟩ := m
    rw [hx] at hg
    obtain ⟨rfl, hs, hf⟩ := hg
    have HX4 := Lib.hid hx
    have HXN4 := Lib.hid (takeT_len hx)
    have HXK4 := Lib.hid (HSd.out.tokOk hx)
    have HS4 := Lib.hid hs
    have HF4 := Lib.hid (HF3.out.trans ((Fr.drew (Fr.refl c _)).trans hf))
    have HT4 := Lib.hid (HT3.out.keep (Fr.below ((Fr.drew (Fr.refl c _)).trans hf)))
    have BX3 := Lib.hid (BX3.out.fr ((Fr.drew (Fr.refl c _)).trans hf))
    have BX4 := Lib.hid (BX4.out.fr ((Fr.drew (Fr.refl c _)).trans hf))
    have hR4 := hs.cells.1
    clear hs hf hx hHeld
    refine hK.out _ _ ?_ (fun hHeld => ?_)
    · (try dsimp only)
      (first | exact hR5 | exact hR4 | exact hR0d | exact hR0)
    clear hK K
    (try simp only [Act.put, List.setIfInBounds_toArray, List.set_cons_zero, List.set_cons_succ])
    refine take_at 5 19 j2_5 (v := ?_) (Or.inl ⟨by rfl, ?_⟩) ?_
    rotate_left 1
    · ((intro w hSw; (try dsimp only at hSw); unfold j2_5; go_simp) <;> with_reducible rfl)
    (try simp only [Act.put, List.setIfInBounds_toArray, List.set_cons_zero, List.set_cons_succ])
    refine wpAnyH_ready (rs := [10]) (by kernel_rfl) (by simp) ?_
    refine AllReadyH.cons (o := j2_10) rfl (fun K hK => ?_) ?_
    · unfold j2_10
      go_simp
      (go_at_call 66; with_reducible refine Calls.mono (HS4.out.rtake 3) ?_; intro e w5 hg)
      cases hx : takeT c.E 3 q4 with
      | error a =>
        rw [hx] at hg
        obtain ⟨rfl, hf⟩ := hg
        unfold faultP
        go_wp2
        unfold kidsJ; rw [HX1.out]; simp only; rw [HX2.out]; simp only; rw [HX4.out]; simp only; rw [hx]
        exact ⟨rfl, rfl, HF4.out.trans hf⟩
      | ok m =>
      obtain ⟨t5, q5⟩ := m
      rw [hx] at hg
      obtain ⟨rfl, hs, hf⟩ := hg
      have HX5 := Lib.hid hx
      have HXN5 := Lib.hid (takeT_len hx)
      have HXK5 := Lib.hid (HS4.out.tokOk hx)
      have HS5 := Lib.hid hs
      have HF5 := Lib.hid (HF4.out.trans hf)
      have HT5 := Lib.hid (HT4.out.keep (Fr.below hf))
      have BX3 := Lib.hid (BX3.out.fr hf)
      have BX4 := Lib.hid (BX4.out.fr hf)
      have hR5 := hs.cells.1
      clear hs hf hx hHeld
      refine hK.out _ _ ?_ (fun hHeld => ?_)
      · (try dsimp only)
        (first | exact hR5 | exact hR4 | exact hR0d | exact hR0)
      clear hK K
      (try simp only [Act.put, List.setIfInBounds_toArray, List.set_cons_zero, List.set_cons_succ])
      refine take_at 11 25 j2_11 (v := ?_) (Or.inl ⟨by rfl, ?_⟩) ?_
      rotate_left 1
      · ((intro w hSw; (try dsimp only at hSw); unfold j2_11; go_simp) <;> with_reducible rfl)
      (try simp only [Act.put, List.setIfInBounds_toArray, List.set_cons_zero, List.set_cons_succ])
      refine take_at 12 5 j2_12 (v := ?_) (Or.inl ⟨by rfl, ?_⟩) ?_
      rotate_left 1
      · ((intro w hSw; (try dsimp only at hSw); unfold j2_12; go_simp) <;> with_reducible rfl)
      (try simp only [Act.put, List.setIfInBounds_toArray, List.set_cons_zero, List.set_cons_succ])
      refine take_at 13 6 j2_13 (v := ?_) (Or.inl ⟨by rfl, ?_⟩) ?_
      rotate_left 1
      · ((intro w hSw; (try dsimp only at hSw); unfold j2_13; go_simp) <;> with_reducible rfl)
      (try simp only [Act.put, List.setIfInBounds_toArray, List.set_cons_zero, List.set_cons_succ])
      refine wpAnyH_done (by kernel_rfl) ?_ _
      clear hHeld hR0 hR0d hR4 hR5 r0 r1 r2 r5 rlt
      obtain ⟨r0, r1, r2, r5, rlt⟩ := HS5.out.cells
      go_wp2_with fail
      refine (bind_any c (sl + 299) t4.s N q5 w5 (HS5.out.less (by omega)) HXK4.out).mono ?_
      rintro e w6 ⟨rfl, hs, hf⟩
      have HS6 := Lib.hid hs
      have HF6 := Lib.hid (HF5.out.trans hf)
      have HT6 := Lib.hid (HT5.out.keep hf.below)
      have BX3 := Lib.hid (BX3.out.fr hf)
      have BX4 := Lib.hid (BX4.out.fr hf)
      clear hs hf r0 r1 r2 r5 rlt
      obtain ⟨r0, r1, r2, r5, rlt⟩ := HS6.out.cells
      go_wp2_with fail
      refine (bind_any c (sl + 298) t5.s (t4.s :: N) q5 w6 HS6.out HXK5.out).mono ?_
      rintro e w7 ⟨rfl, hs, hf⟩
      have HS7 := Lib.hid hs
      have HF7 := Lib.hid (HF6.out.trans hf)
      have HT7 := Lib.hid (HT6.out.keep hf.below)
      have BX3 := Lib.hid (BX3.out.fr hf)
      have BX4 := Lib.hid (BX4.out.fr hf)
      clear hs hf r0 r1 r2 r5 rlt
      obtain ⟨r0, r1, r2, r5, rlt⟩ := HS7.out.cells
      go_wp2_with fail
      refine (HL.out.use 2 (t5.s :: t4.s :: N) q5 (sl + 298) _ (by have := HLN1.out; have := HLN2.out; have := HXN4.out; have := HXN5.out; omega) HS7.out HT7.out).mono ?_
      intro e w8 hg
      cases hx : tp 2 (t5.s :: t4.s :: N) q5 with
      | error a =>
        rw [hx] at hg
        obtain ⟨rfl, hf⟩ := hg
        unfold faultP
        go_wp2
        unfold kidsJ; rw [HX1.out]; simp only; rw [HX2.out]; simp only; rw [HX4.out]; simp only; rw [HX5.out]; simp only; rw [hx]
        exact ⟨rfl, rfl, HF7.out.trans hf⟩
      | ok m =>
      obtain ⟨t8, q8⟩ := m
      rw [hx] at hg
      obtain ⟨s, rfl, hl8, hfi8, hs8, hf8⟩ := hg
      obtain ⟨a8, p8, rfl, -, -⟩ := hl8.out
      have HX8 := Lib.hid hx
      have HLN8 := Lib.hid (HLE.out _ _ _ _ _ hx)
      have HS8 := Lib.hid hs8
      have HF8 := Lib.hid (HF7.out.trans hf8)
      have HT8 := Lib.hid (HT7.out.keep hf8.below)
      have HLL8 := Lib.hid (hl8.from (B' := w.heap.size) (by have := HF7.out.size; omega))
      have HFI8 := Lib.hid hfi8
      have BX3 := Lib.hid (BX3.out.fr hf8)
      have BX4 := Lib.hid (BX4.out.fr hf8)
      clear hl8 hfi8 hs8 hf8 hx r0 r1 r2 r5 rlt
      obtain ⟨r0, r1, r2, r5, rlt⟩ := HS8.out.cells
      unfold tv
      go_wp2_with fail
      have hal1 := al w8 (.cells #[.int .i64 t8.k, .int .i64 t8.i, .int .i64 t8.j, .int .i64 t8.n, .slice a8 t8.kids.length p8] 26)
      have hal := hal1
      have BX7 := Lib.hid (boxT_new HLL8.out HFI8.out)
      have BX3 := Lib.hid (BX3.out.below hal)
      have BX4 := Lib.hid (BX4.out.below hal)
      have HS9 := Lib.hid (HS8.out.later hal)
      have HF9 := Lib.hid (HF8.out.trans (Fr.later hal HS8.out.lo))
      have HT9 := Lib.hid (HT8.out.keep (hal.mono HS8.out.lo))
      clear hal hal1
      clear r0 r1 r2 r5 rlt
      obtain ⟨r0, r1, r2, r5, rlt⟩ := HS9.out.cells
      refine (unbind_any c (sl + 297) t5.s (t4.s :: N) q8 _ HS9.out HXK5.out (by have := HS0.out.inner; simp; omega)).mono ?_
      rintro e w10 ⟨rfl, hs, hf⟩
      have HS10 := Lib.hid hs
      have HF10 := Lib.hid (HF9.out.trans hf)
      have HT10 := Lib.hid (HT9.out.keep hf.below)
      have BX3 := Lib.hid (BX3.out.fr hf)
      have BX4 := Lib.hid (BX4.out.fr hf)
      have BX7 := Lib.hid (BX7.out.fr hf)
      clear hs hf r0 r1 r2 r5 rlt
      obtain ⟨r0, r1, r2, r5, rlt⟩ := HS10.out.cells
      go_wp2_with fail
      refine (unbind_any c (sl + 296) t4.s N q8 _ HS10.out HXK4.out (by have := HS0.out.inner; simp; omega)).mono ?_
      rintro e w11 ⟨rfl, hs, hf⟩
      have HS11 := Lib.hid hs
      have HF11 := Lib.hid (HF10.out.trans hf)
      have HT11 := Lib.hid (HT10.out.keep hf.below)
      have BX3 := Lib.hid (BX3.out.fr hf)
      have BX4 := Lib.hid (BX4.out.fr hf)
      have BX7 := Lib.hid (BX7.out.fr hf)
      clear hs hf r0 r1 r2 r5 rlt
      obtain ⟨r0, r1, r2, r5, rlt⟩ := HS11.out.cells
      go_wp2_with fail
      refine (HL.out.use 2 N q8 (sl + 296) _ (by have := HLN1.out; have := HLN2.out; have := HXN4.out; have := HXN5.out; have := HLN8.out; omega) HS11.out HT11.out).mono ?_
      intro e w12 hg
      cases hx : tp 2 N q8 with
      | error a =>
        rw [hx] at hg
        obtain ⟨rfl, hf⟩ := hg
        unfold faultP
        go_wp2
        unfold kidsJ; rw [HX1.out]; simp only; rw [HX2.out]; simp only; rw [HX4.out]; simp only; rw [HX5.out]; simp only; rw [HX8.out]; simp only; rw [hx]
        exact ⟨rfl, rfl, HF11.out.trans hf⟩
      | ok m =>
      obtain ⟨t12, q12⟩ := m
      rw [hx] at hg
      obtain ⟨s, rfl, hl12, hfi12, hs12, hf12⟩ := hg
      obtain ⟨a12, p12, rfl, -, -⟩ := hl12.out
      have HX12 := Lib.hid hx
      have HLN12 := Lib.hid (HLE.out _ _ _ _ _ hx)
      have HS12 := Lib.hid hs12
      have HF12 := Lib.hid (HF11.out.trans hf12)
      have HT12 := Lib.hid (HT11.out.keep hf12.below)
      have HLL12 := Lib.hid (hl12.from (B' := w.heap.size) (by have := HF11.out.size; omega))
      have HFI12 := Lib.hid hfi12
      have BX3 := Lib.hid (BX3.out.fr hf12)
      have BX4 := Lib.hid (BX4.out.fr hf12)
      have BX7 := Lib.hid (BX7.out.fr hf12)
      clear hl12 hfi12 hs12 hf12 hx r0 r1 r2 r5 rlt
      obtain ⟨r0, r1, r2, r5, rlt⟩ := HS12.out.cells
      unfold tv
      go_wp2_with fail
      refine (HL.out.use 2 N q12 (sl + 296) _ (by have := HLN1.out; have := HLN2.out; have := HXN4.out; have := HXN5.out; have := HLN8.out; have := HLN12.out; omega) HS12.out HT12.out).mono ?_
      intro e w13 hg
      cases hx : tp 2 N q12 with
      | error a =>
        rw [hx] at hg
        obtain ⟨rfl, hf⟩ := hg
        unfold faultP
        go_wp2
        unfold kidsJ; rw [HX1.out]; simp only; rw [HX2.out]; simp only; rw [HX4.out]; simp only; rw [HX5.out]; simp only; rw [HX8.out]; simp only; rw [HX12.out]; simp only; rw [hx]
        exact ⟨rfl, rfl, HF12.out.trans hf⟩
      | ok m =>
      obtain ⟨t13, q13⟩ := m
      rw [hx] at hg
      obtain ⟨s, rfl, hl13, hfi13, hs13, hf13⟩ := hg
      obtain ⟨a13, p13, rfl, -, -⟩ := hl13.out
      have HX13 := Lib.hid hx
      have HLN13 := Lib.hid (HLE.out _ _ _ _ _ hx)
      have HS13 := Lib.hid hs13
      have HF13 := Lib.hid (HF12.out.trans hf13)
      have HT13 := Lib.hid (HT12.out.keep hf13.below)
      have HLL13 := Lib.hid (hl13.from (B' := w.heap.size) (by have := HF12.out.size; omega))
      have HFI13 := Lib.hid hfi13
      have BX3 := Lib.hid (BX3.out.fr hf13)
      have BX4 := Lib.hid (BX4.out.fr hf13)
      have BX7 := Lib.hid (BX7.out.fr hf13)
      have HLL12 := Lib.hid (liesP_fr HLL12.out hf13)
      clear hl13 hfi13 hs13 hf13 hx r0 r1 r2 r5 rlt
      obtain ⟨r0, r1, r2, r5, rlt⟩ := HS13.out.cells
      unfold tv
      go_wp2_with fail
      have hal1 := al w13 (.cells #[.int .i64 t12.k, .int .i64 t12.i, .int .i64 t12.j, .int .i64 t12.n, .slice a12 t12.kids.length p12] 26)
      have hal2 := al (w13.alloc (.cells #[.int .i64 t12.k, .int .i64 t12.i, .int .i64 t12.j, .int .i64 t12.n, .slice a12 t12.kids.length p12] 26)) (.cells #[.int .i64 t13.k, .int .i64 t13.i, .int .i64 t13.j, .int .i64 t13.n, .slice a13 t13.kids.length p13] 26)
      have hal : Below w13.heap.size w13 ((w13.alloc (.cells #[.int .i64 t12.k, .int .i64 t12.i, .int .i64 t12.j, .int .i64 t12.n, .slice a12 t12.kids.length p12] 26)).alloc (.cells #[.int .i64 t13.k, .int .i64 t13.i, .int .i64 t13.j, .int .i64 t13.n, .slice a13 t13.kids.length p13] 26)) := hal1.trans (hal2.mono (by simp))
      have BX8 := Lib.hid ((boxT_new HLL12.out HFI12.out).below hal2)
      have BX9 := Lib.hid (show BoxT w.heap.size ((w13.alloc (.cells #[.int .i64 t12.k, .int .i64 t12.i, .int .i64 t12.j, .int .i64 t12.n, .slice a12 t12.kids.length p12] 26)).alloc (.cells #[.int .i64 t13.k, .int .i64 t13.i, .int .i64 t13.j, .int .i64 t13.n, .slice a13 t13.kids.length p13] 26)) (w13.heap.size + 1) t13 (.slice a13 t13.kids.length p13) from by have h := boxT_new (HLL13.out.later hal1) HFI13.out; rw [World.size_alloc] at h; exact h)
      have BX3 := Lib.hid (BX3.out.below hal)
      have BX4 := Lib.hid (BX4.out.below hal)
      have BX7 := Lib.hid (BX7.out.below hal)
      have HS14 := Lib.hid (HS13.out.later hal)
      have HF14 := Lib.hid (HF13.out.trans (Fr.later hal HS13.out.lo))
      have HT14 := Lib.hid (HT13.out.keep (hal.mono HS13.out.lo))
      clear hal hal1 hal2
      have HSe := Lib.hid HS14.out.drew
      have HTe := Lib.hid (HT14.out.keep (Fr.below (Fr.drew (Fr.refl c _))))
      refine wp_region_held_drew (S := fun w' => w'.heap[w2.heap.size]? = some (.cells #[.int .i64 t1.k, .int .i64 t1.i, .int .i64 t1.j, .int .i64 t1.n, .slice a1 t1.kids.length p1] 26) ∧ w'.heap[w2.heap.size + 1]? = some (.cells #[.int .i64 t2.k, .int .i64 t2.i, .int .i64 t2.j, .int .i64 t2.n, .slice a2 t2.kids.length p2] 26) ∧ w'.heap[w8.heap.size]? = some (.cells #[.int .i64 t8.k, .int .i64 t8.i, .int .i64 t8.j, .int .i64 t8.n, .slice a8 t8.kids.length p8] 26) ∧ w'.heap[w13.heap.size]? = some (.cells #[.int .i64 t12.k, .int .i64 t12.i, .int .i64 t12.j, .int .i64 t12.n, .slice a12 t12.kids.length p12] 26) ∧ w'.heap[w13.heap.size + 1]? = some (.cells #[.int .i64 t13.k, .int .i64 t13.i, .int .i64 t13.j, .int .i64 t13.n, .slice a13 t13.kids.length p13] 26)) (by kernel_rfl) ?_ (fun hHeld => ?_)
      · (try dsimp only)
        (first | exact hS16 | exact hS15 | exact ⟨BX3.out.box, BX4.out.box, BX7.out.box, BX8.out.box, BX9.out.box⟩)
      refine take_at 0 44 j9_0 (yields_row (w2.heap.size) _ _ _ #[.int .i64 t1.k, .int .i64 t1.i, .int .i64 t1.j, .int .i64 t1.n, .slice a1 t1.kids.length p1] _ du (by rfl) rfl (by rfl) (fun w' h => h.1) hu1 (by cases du <;> first | rfl | exact hu2) size_term) ?_
      (try simp only [Act.put, List.setIfInBounds_toArray, List.set_cons_zero, List.set_cons_succ])
      refine take_at 1 45 j9_1 (yields_row (w2.heap.size + 1) _ _ _ #[.int .i64 t2.k, .int .i64 t2.i, .int .i64 t2.j, .int .i64 t2.n, .slice a2 t2.kids.length p2] _ du (by rfl) rfl (by rfl) (fun w' h => h.2.1) hu1 (by cases du <;> first | rfl | exact hu2) size_term) ?_
      (try simp only [Act.put, List.setIfInBounds_toArray, List.set_cons_zero, List.set_cons_succ])
      refine take_at 2 46 j9_2 (yields_row (w8.heap.size) _ _ _ #[.int .i64 t8.k, .int .i64 t8.i, .int .i64 t8.j, .int .i64 t8.n, .slice a8 t8.kids.length p8] _ du (by rfl) rfl (by rfl) (fun w' h => h.2.2.1) hu1 (by cases du <;> first | rfl | exact hu2) size_term) ?_
      (try simp only [Act.put, List.setIfInBounds_toArray, List.set_cons_zero, List.set_cons_succ])
      refine take_at 3 47 j9_3 (yields_row (w13.heap.size) _ _ _ #[.int .i64 t12.k, .int .i64 t12.i, .int .i64 t12.j, .int .i64 t12.n, .slice a12 t12.kids.length p12] _ du (by rfl) rfl (by rfl) (fun w' h => h.2.2.2.1) hu1 (by cases du <;> first | rfl | exact hu2) size_term) ?_
      (try simp only [Act.put, List.setIfInBounds_toArray, List.set_cons_zero, List.set_cons_succ])
      refine take_at 4 48 j9_4 (yields_row (w13.heap.size + 1) _ _ _ #[.int .i64 t13.k, .int .i64 t13.i, .int .i64 t13.j, .int .i64 t13.n, .slice a13 t13.kids.length p13] _ du (by rfl) rfl (by rfl) (fun w' h => h.2.2.2.2) hu1 (by cases du <;> first | rfl | exact hu2) size_term) ?_
      (try simp only [Act.put, List.setIfInBounds_toArray, List.set_cons_zero, List.set_cons_succ])
      refine take_at 5 49 j9_5 (v := ?_) (Or.inl ⟨by rfl, ?_⟩) ?_
      rotate_left 1
      · ((intro w hSw; (try dsimp only at hSw); unfold j9_5; go_simp) <;> with_reducible rfl)
      (try simp only [Act.put, List.setIfInBounds_toArray, List.set_cons_zero, List.set_cons_succ])
      refine wpAnyH_ready (rs := [6]) (by kernel_rfl) (by simp) ?_
      refine AllReadyH.cons (o := j9_6) rfl (fun K hK => ?_) ?_
      · unfold j9_6
        go_simp
        (go_at_call 43; with_reducible refine Calls.mono (HL.out.use 2 N q13 (sl + 296) _ (by have := HLN1.out; have := HLN2.out; have := HXN4.out; have := HXN5.out; have := HLN8.out; have := HLN12.out; have := HLN13.out; omega) HSe.out HTe.out) ?_; intro e w15 hg)
        cases hx : tp 2 N q13 with
        | error a =>
          rw [hx] at hg
          obtain ⟨rfl, hf⟩ := hg
          unfold faultP
          go_wp2
          unfold kidsJ; rw [HX1.out]; simp only; rw [HX2.out]; simp only; rw [HX4.out]; simp only; rw [HX5.out]; simp only; rw [HX8.out]; simp only; rw [HX12.out]; simp only; rw [HX13.out]; simp only; rw [hx]
          exact ⟨rfl, rfl, HF14.out.trans ((Fr.drew (Fr.refl c _)).trans hf)⟩
        | ok m =>
        obtain ⟨t15, q15⟩ := m
        rw [hx] at hg
        obtain ⟨s, rfl, hl, hfi, hs, hf⟩ := hg
        obtain ⟨a15, p15, rfl, -, -⟩ := hl.out
        have HX15 := Lib.hid hx
        have HS15 := Lib.hid hs
        have hfd := (Fr.drew (Fr.refl c _)).trans hf
        have HF15 := Lib.hid (HF14.out.trans hfd)
        have HLL15 := Lib.hid (hl.from (B' := w.heap.size) (by have := HF14.out.size; exact this))
        have HFI15 := Lib.hid hfi
        have BX3 := Lib.hid (BX3.out.fr hfd)
        have BX4 := Lib.hid (BX4.out.fr hfd)
        have BX7 := Lib.hid (BX7.out.fr hfd)
        have BX8 := Lib.hid (BX8.out.fr hfd)
        have BX9 := Lib.hid (BX9.out.fr hfd)
        have hS15 : (fun w' => w'.heap[w2.heap.size]? = some (.cells #[.int .i64 t1.k, .int .i64 t1.i, .int .i64 t1.j, .int .i64 t1.n, .slice a1 t1.kids.length p1] 26) ∧ w'.heap[w2.heap.size + 1]? = some (.cells #[.int .i64 t2.k, .int .i64 t2.i, .int .i64 t2.j, .int .i64 t2.n, .slice a2 t2.kids.length p2] 26) ∧ w'.heap[w8.heap.size]? = some (.cells #[.int .i64 t8.k, .int .i64 t8.i, .int .i64 t8.j, .int .i64 t8.n, .slice a8 t8.kids.length p8] 26) ∧ w'.heap[w13.heap.size]? = some (.cells #[.int .i64 t12.k, .int .i64 t12.i, .int .i64 t12.j, .int .i64 t12.n, .slice a12 t12.kids.length p12] 26) ∧ w'.heap[w13.heap.size + 1]? = some (.cells #[.int .i64 t13.k, .int .i64 t13.i, .int .i64 t13.j, .int .i64 t13.n, .slice a13 t13.kids.length p13] 26)) w15 := ⟨BX3.out.box, BX4.out.box, BX7.out.box, BX8.out.box, BX9.out.box⟩
        clear hl hfi hs hf hfd hx hHeld
        unfold tv
        refine hK.out _ _ ?_ (fun hHeld => ?_)
        · (try dsimp only)
          (first | exact hS16 | exact hS15 | exact ⟨BX3.out.box, BX4.out.box, BX7.out.box, BX8.out.box, BX9.out.box⟩)
        clear hK K
        (try simp only [Act.put, List.setIfInBounds_toArray, List.set_cons_zero, List.set_cons_succ])
        refine wpAnyH_ready (rs := [7]) (by kernel_rfl) (by simp) ?_
        refine AllReadyH.cons (o := j9_7) rfl (fun K hK => ?_) ?_
        · unfold j9_7
          go_simp
          have hS16 : (fun w' => w'.heap[w2.heap.size]? = some (.cells #[.int .i64 t1.k, .int .i64 t1.i, .int .i64 t1.j, .int .i64 t1.n, .slice a1 t1.kids.length p1] 26) ∧ w'.heap[w2.heap.size + 1]? = some (.cells #[.int .i64 t2.k, .int .i64 t2.i, .int .i64 t2.j, .int .i64 t2.n, .slice a2 t2.kids.length p2] 26) ∧ w'.heap[w8.heap.size]? = some (.cells #[.int .i64 t8.k, .int .i64 t8.i, .int .i64 t8.j, .int .i64 t8.n, .slice a8 t8.kids.length p8] 26) ∧ w'.heap[w13.heap.size]? = some (.cells #[.int .i64 t12.k, .int .i64 t12.i, .int .i64 t12.j, .int .i64 t12.n, .slice a12 t12.kids.length p12] 26) ∧ w'.heap[w13.heap.size + 1]? = some (.cells #[.int .i64 t13.k, .int .i64 t13.i, .int .i64 t13.j, .int .i64 t13.n, .slice a13 t13.kids.length p13] 26)) (w15.alloc (.cells (cells5 [(t1, .slice a1 t1.kids.length p1), (t2, .slice a2 t2.kids.length p2), (t8, .slice a8 t8.kids.length p8), (t12, .slice a12 t12.kids.length p12), (t13, .slice a13 t13.kids.length p13), (t15, .slice a15 t15.kids.length p15)]).toArray 26)) := ⟨(BX3.out.below (al w15 _)).box, (BX4.out.below (al w15 _)).box, (BX7.out.below (al w15 _)).box, (BX8.out.below (al w15 _)).box, (BX9.out.below (al w15 _)).box⟩
          clear hHeld
          refine hK.out _ _ ?_ (fun hHeld => ?_)
          · (try dsimp only)
            (first | exact hS16 | exact hS15 | exact ⟨BX3.out.box, BX4.out.box, BX7.out.box, BX8.out.box, BX9.out.box⟩)
          clear hK K
          (try simp only [Act.put, List.setIfInBounds_toArray, List.set_cons_zero, List.set_cons_succ])
          refine take_at 8 2 j9_8 (v := ?_) (Or.inl ⟨by rfl, ?_⟩) ?_
          rotate_left 1
          · ((intro w hSw; (try dsimp only at hSw); unfold j9_8; go_simp) <;> with_reducible rfl)
          (try simp only [Act.put, List.setIfInBounds_toArray, List.set_cons_zero, List.set_cons_succ])
          refine wpAnyH_done (by kernel_rfl) ?_ _
          have HSIX := Lib.hid (six_made (B := w.heap.size) (w := w15) (by have := HF15.out.size; omega) (ps := [(t1, .slice a1 t1.kids.length p1), (t2, .slice a2 t2.kids.length p2), (t8, .slice a8 t8.kids.length p8), (t12, .slice a12 t12.kids.length p12), (t13, .slice a13 t13.kids.length p13), (t15, .slice a15 t15.kids.length p15)]) rfl (by
            intro p hp
            simp only [List.mem_cons, List.not_mem_nil, or_false] at hp
            rcases hp with rfl | rfl | rfl | rfl | rfl | rfl
            · exact BX3.out.fine
            · exact BX4.out.fine
            · exact BX7.out.fine
            · exact BX8.out.fine
            · exact BX9.out.fine
            · exact HFI15.out) (by
            intro p hp
            simp only [List.mem_cons, List.not_mem_nil, or_false] at hp
            rcases hp with rfl | rfl | rfl | rfl | rfl | rfl
            · exact BX3.out.kids
            · exact BX4.out.kids
            · exact BX7.out.kids
            · exact BX8.out.kids
            · exact BX9.out.kids
            · exact HLL15.out))
          clear hHeld hS15 hS16
          go_wp2
          go_ret
          unfold kidsJ; rw [HX1.out]; simp only; rw [HX2.out]; simp only; rw [HX4.out]; simp only; rw [HX5.out]; simp only; rw [HX8.out]; simp only; rw [HX12.out]; simp only; rw [HX13.out]; simp only; rw [HX15.out]
          exact ⟨_, rfl, HSIX.out, (HS15.out.later (al w15 _)).less (by omega), HF15.out.trans (Fr.later (al w15 _) HS15.out.lo)⟩
        exact AllReadyH.nil
      exact AllReadyH.nil
    exact AllReadyH.nil
  exact AllReadyH.nil
end Go.Proofs.YtllkackipdcekaaDoor

namespace Go.Proofs.YtllkackipdcekaaDoor
open Go.RowKit Go.Maps Go.ChangeShapes

/-- The state while a list is read: the result's block G, the box b of the term so far. -/
structure LSt (c : RC) (sl : Nat) (N : Names) (w0 : World) (b : Nat) (k i j n : Int) (s : Value) (q : List Tok) (w : World) : Prop where
  st : RSt c sl N q w
  fr : Fr c w0 w
  tab : TabsR c.B w
  zg : w.heap[w0.heap.size]? = some (zeroT)
  bx : w.heap[b]? = some (.cells #[.int .i64 k, .int .i64 i, .int .i64 j, .int .i64 n, s] 26 (0, 0))
theorem LSt.on {c : RC} {sl sl' : Nat} {N : Names} {w0 : World} {b : Nat} {k i j n : Int} {s : Value} {q q' : List Tok} {w w' : World} (h : LSt c sl N w0 b k i j n s q w) (hf : Fr c w w') (hs : RSt c sl' N q' w') : LSt c sl' N w0 b k i j n s q' w' :=
  ⟨hs, h.fr.trans hf, h.tab.keep hf.below, hf.kept _ _ _ _ h.zg (by decide) (by decide) (by decide), hf.kept _ _ _ _ h.bx (by decide) (by decide) (by decide)⟩
theorem LSt.turn {c : RC} {sl : Nat} {N : Names} {w0 : World} {b : Nat} {k i j n k' i' j' n' : Int} {s s' : Value} {q : List Tok} {w w' : World} (h : LSt c sl N w0 b k i j n s q w) (hlo : c.B ≤ w0.heap.size) (hb : w0.heap.size < b) (hg : w.grownBy w' (some b)) (hx : w'.heap[b]? = some (.cells #[.int .i64 k', .int .i64 i', .int .i64 j', .int .i64 n', s'] 26 (0, 0))) : LSt c sl N w0 b k' i' j' n' s' q w' :=
  ⟨h.st.other hg h.bx (by omega), h.fr.other hg (by omega) hlo, h.tab.keep ⟨hg.os, hg.tape, hg.output, hg.size, fun p hp => hg.block p (by have := h.st.lo; omega) (fun e => by have := Option.some.inj e; omega)⟩, by rw [hg.block _ (hlt_of h.zg) (fun e => by have := Option.some.inj e; omega)]; exact h.zg, hx⟩
theorem g1 (w : World) (b i : Nat) (v : Value) : w.grownBy (w.setCell ⟨b, i, none⟩ v) (some b) := grown_at ⟨rfl, rfl, rfl, Nat.le_refl _, fun _ _ _ => rfl⟩ i v
theorem LSt.setN {c : RC} {sl : Nat} {N : Names} {w0 : World} {b : Nat} {k i j n : Int} {s : Value} {q : List Tok} {w : World} (h : LSt c sl N w0 b k i j n s q w) (hlo : c.B ≤ w0.heap.size) (hb : w0.heap.size < b) (m : Int) : LSt c sl N w0 b k i j m s q (w.setCell ⟨b, 3, none⟩ (.int .i64 m)) := h.turn hlo hb (g1 _ _ _ _) (heap_setCell_same _ _ _ _ _ _ h.bx)
theorem LSt.setI {c : RC} {sl : Nat} {N : Names} {w0 : World} {b : Nat} {k i j n : Int} {s : Value} {q : List Tok} {w : World} (h : LSt c sl N w0 b k i j n s q w) (hlo : c.B ≤ w0.heap.size) (hb : w0.heap.size < b) (m : Int) : LSt c sl N w0 b k m j n s q (w.setCell ⟨b, 1, none⟩ (.int .i64 m)) := h.turn hlo hb (g1 _ _ _ _) (heap_setCell_same _ _ _ _ _ _ h.bx)
theorem LSt.setJ {c : RC} {sl : Nat} {N : Names} {w0 : World} {b : Nat} {k i j n : Int} {s : Value} {q : List Tok} {w : World} (h : LSt c sl N w0 b k i j n s q w) (hlo : c.B ≤ w0.heap.size) (hb : w0.heap.size < b) (m : Int) : LSt c sl N w0 b k i m n s q (w.setCell ⟨b, 2, none⟩ (.int .i64 m)) := h.turn hlo hb (g1 _ _ _ _) (heap_setCell_same _ _ _ _ _ _ h.bx)
theorem LSt.setS {c : RC} {sl : Nat} {N : Names} {w0 : World} {b : Nat} {k i j n : Int} {s : Value} {q : List Tok} {w : World} (h : LSt c sl N w0 b k i j n s q w) (hlo : c.B ≤ w0.heap.size) (hb : w0.heap.size < b) (s' : Value) : LSt c sl N w0 b k i j n s' q (w.setCell ⟨b, 4, none⟩ s') := h.turn hlo hb (g1 _ _ _ _) (heap_setCell_same _ _ _ _ _ _ h.bx)
theorem headN_range (x : List UInt8) : 0 ≤ headN x ∧ headN x ≤ 30 := by
  unfold headN
  split
  · omega
  · split
    · rename_i i hi
      have := idxL_lt hi
      simp [headsW] at this
      omega
    · omega
theorem symN_range (x : List UInt8) : 0 ≤ symN x ∧ symN x ≤ 30 := by
  unfold symN
  split
  · rename_i i hi
    have := idxL_lt hi
    simp [symsW] at this
    omega
  · omega
theorem levelsN_range (k : Int) : 0 ≤ levelsN k ∧ levelsN k ≤ 2 := by unfold levelsN; (repeat' split) <;> omega
theorem body1 {lv : List Tok → Except Nat (Int × List Tok)} {tp : Int → Names → List Tok → Except Nat (Tm × List Tok)} {E : Nat} {k : Int} {N : Names} {ts : List Tok} {a : Nat} (h : symP E k ts = .error a) : bodyP lv tp E k N ts = .error a := by unfold bodyP; rw [h]
theorem body2 {lv : List Tok → Except Nat (Int × List Tok)} {tp : Int → Names → List Tok → Except Nat (Tm × List Tok)} {E : Nat} {k n : Int} {N : Names} {ts r1 : List Tok} {a : Nat} (h : symP E k ts = .ok (n, r1)) (h1 : lvaP lv k r1 = .error a) : bodyP lv tp E k N ts = .error a := by unfold bodyP; rw [h]; simp only; rw [h1]
theorem body3 {lv : List Tok → Except Nat (Int × List Tok)} {tp : Int → Names → List Tok → Except Nat (Tm × List Tok)} {E : Nat} {k n i : Int} {N : Names} {ts r1 r2 : List Tok} {a : Nat} (h : symP E k ts = .ok (n, r1)) (h1 : lvaP lv k r1 = .ok (i, r2)) (h2 : lvbP lv k r2 = .error a) : bodyP lv tp E k N ts = .error a := by unfold bodyP; rw [h]; simp only; rw [h1]; simp only; rw [h2]
theorem body4 {lv : List Tok → Except Nat (Int × List Tok)} {tp : Int → Names → List Tok → Except Nat (Tm × List Tok)} {E : Nat} {k n i j : Int} {N : Names} {ts r1 r2 r3 : List Tok} (h : symP E k ts = .ok (n, r1)) (h1 : lvaP lv k r1 = .ok (i, r2)) (h2 : lvbP lv k r2 = .ok (j, r3)) : bodyP lv tp E k N ts = (match kdsP tp E k n N r3 with
    | .error e => .error e
    | .ok (l, r4) => match takeT E 2 r4 with
      | .error e => .error e
      | .ok (_, r5) => .ok (.mk k i j n l, r5)) := by unfold bodyP; rw [h]; simp only; rw [h1]; simp only; rw [h2]; rfl
set_option maxHeartbeats 8000000 in
set_option maxRecDepth 20000 in
theorem rlist_any (c : RC) (f : Nat) (lv : List Tok → Except Nat (Int × List Tok)) (tp : Int → Names → List Tok → Except Nat (Tm × List Tok)) (hlv : LevelC c f lv) (hll : ∀ ts n r, lv ts = .ok (n, r) → r.length < ts.length ∧ n ≤ 1000) (htp : TermC c f tp) (hlen : ∀ s N ts t r, tp s N ts = .ok (t, r) → r.length < ts.length) : ListC c f lv tp := by
  intro so N t r sl w hf ht1 h hT
  obtain ⟨du, hu1, hu2⟩ := under_term
  have hlo := h.lo
  have hB1 := al w (zeroT)
  have HF0 := Lib.hid (Fr.later hB1 hlo)
  have HS0 := Lib.hid (h.later hB1)
  have HT0 := Lib.hid (hT.keep HF0.out.below)
  have HG0 := Lib.hid (show (w.alloc (zeroT)).heap[w.heap.size]? = some (zeroT) from alloc_new _ _)
  have HK := Lib.hid (fun (k n own : Int) (q : List Tok) (sl : Nat) (w : World) (h1 : q.length < f) (h2 : RSt c (sl + 100) N q w) (h3 : TabsR c.B w) => rkids_any c f tp htp hlen k 0 0 n own N q sl w h1 h2 h3)
  have HKJ := Lib.hid (fun (q : List Tok) (sl : Nat) (w : World) (h1 : q.length < f) (h2 : RSt c (sl + 100) N q w) (h3 : TabsR c.B w) => rkidsJ_any c f tp htp hlen N q sl w h1 h2 h3)
  have HKK := Lib.hid (fun (k i j n own : Int) (q : List Tok) (sl : Nat) (w : World) (h1 : q.length < f) (h2 : RSt c (sl + 100) N q w) (h3 : TabsR c.B w) => rkids_any c f tp htp hlen k i j n own N q sl w h1 h2 h3)
  have HLV := Lib.hid hlv
  have HLL := Lib.hid hll
  have HLE := Lib.hid hlen
  have HTK := Lib.hid (show takeT c.E 1 (t :: r) = .ok (t, r) from if_pos ht1)
  obtain ⟨r0, r1, r2, r5, rlt⟩ := h.cells
  clear htp h hT hlen hlv hll hB1 ht1
  go_enter Tryd.func65, Tryd.ntmps65
  go_wp2_with fail
  refine (HS0.out.rtake 1).mono ?_
  intro e w1 hg
  rw [HTK.out] at hg
  obtain ⟨rfl, hs1, hf1⟩ := hg
  have HS1 := Lib.hid hs1
  have HF1 := Lib.hid (HF0.out.trans hf1)
  have HT1 := Lib.hid (HT0.out.keep hf1.below)
  have HG1 := Lib.hid (hf1.kept _ _ _ _ HG0.out (by decide) (by decide) (by decide))
  clear hs1 hf1 r0 r1 r2 r5 rlt HTK
  obtain ⟨r0, r1, r2, r5, rlt⟩ := HS1.out.cells
  go_wp2_with fail
  refine (HS1.out.rtake 3).mono ?_
  intro e w2 hg
  cases hx : takeT c.E 3 r with
  | error a =>
    rw [hx] at hg
    obtain ⟨rfl, hf2⟩ := hg
    unfold faultP
    go_wp2
    unfold listP; rw [hx]
    exact ⟨rfl, rfl, HF1.out.trans hf2⟩
  | ok m =>
  obtain ⟨t2, q⟩ := m
  rw [hx] at hg
  obtain ⟨rfl, hs2, hf2⟩ := hg
  have hbt := al w2 (.cells #[.int .i64 t2.k, .string ⟨t2.s.toArray⟩, .int .i64 t2.at_] 97)
  have HX2 := Lib.hid hx
  have HQ2 := Lib.hid (takeT_len hx)
  have HS2 := Lib.hid (hs2.later hbt)
  have HF2 := Lib.hid ((HF1.out.trans hf2).trans (Fr.later hbt hs2.lo))
  have HT2 := Lib.hid ((HT1.out.keep hf2.below).keep (hbt.mono hs2.lo))
  have HG2 := Lib.hid ((hbt.block _ (hlt_of (hf2.kept _ _ _ _ HG1.out (by decide) (by decide) (by decide)))).trans (hf2.kept _ _ _ _ HG1.out (by decide) (by decide) (by decide)))
  have HW2 := Lib.hid (alloc_new w2 (.cells #[.int .i64 t2.k, .string ⟨t2.s.toArray⟩, .int .i64 t2.at_] 97))
  have hGlt : w.heap.size < w2.heap.size := by have h1 := HF1.out.size; have h2 := hf2.size; have h3 := hlt_of HG1.out; omega
  clear hs2 hf2 hbt hx r0 r1 r2 r5 rlt
  obtain ⟨W, hW⟩ : ∃ W, W = w2.alloc (.cells #[.int .i64 t2.k, .string ⟨t2.s.toArray⟩, .int .i64 t2.at_] 97) := ⟨_, rfl⟩
  have hWs : W.heap.size = w2.heap.size + 1 := by rw [hW]; simp
  rw [← hW] at HS2 HF2 HT2 HG2 HW2
  have d1 : W.cell? ⟨w2.heap.size, 1, none⟩ = some (.string ⟨t2.s.toArray⟩) := by rw [Lib.cell_of_heap HW2.out]; rfl
  have d2 : W.cell? ⟨w2.heap.size, 2, none⟩ = some (.int .i64 t2.at_) := by rw [Lib.cell_of_heap HW2.out]; rfl
  have HWW := Lib.hid hW
  obtain ⟨K, hK⟩ : ∃ K, headN t2.s = K := ⟨_, rfl⟩
  have hKr := headN_range t2.s
  rw [hK] at hKr
  obtain ⟨OW, hOW⟩ : ∃ OW, sortN K = OW := ⟨_, rfl⟩
  have HV := Lib.hid (show listP lv tp c.E so N r = if K = 0 ∨ (OW ≠ 0 ∧ so ≠ 0 ∧ OW ≠ so) then .error t2.at_ else bodyP lv tp c.E K N q by unfold listP; rw [HX2.out]; simp only; rw [hK, hOW])
  have HKE := Lib.hid hK
  have HOE := Lib.hid hOW
  clear hW hK hOW
  go_upto_region 3 with fail
  go_cut [6] (fun s6 wx => s6 = .int .i64 K ∧ wx = W)
  case first =>
    have hW := HWW.out
    subst hW
    go_wp2_with fail
    refine (headed_any c.B t2.s _ HT2.out).mono ?_
    rintro e w3 ⟨rfl, rfl⟩
    go_wp2_with fail
    go_meet
    case rel => exact ⟨by rw [HKE.out], rfl⟩
  case rest =>
  obtain ⟨rfl, hw⟩ := hcut
  subst hw
  go_step
  go_step
  go_cut [7] (fun s7 wx => s7 = .int .i64 OW ∧ wx = wc)
  case first =>
    go_wp2_with fail
    refine (sortOf_any K _).mono ?_
    rintro e w3 ⟨rfl, rfl⟩
    go_wp2_with fail
    go_meet
    case rel => exact ⟨by rw [HOE.out], rfl⟩
  case rest =>
  obtain ⟨rfl, hw⟩ := hcut
  subst hw
  go_step
  go_step
  go_cut [6] (fun s6 wx => s6 = .int .i64 K ∧ wx = wc ∧ Hid (¬ (K = 0 ∨ (OW ≠ 0 ∧ so ≠ 0 ∧ OW ≠ so))))
  case first =>
    by_cases a1 : K = 0
    · have b1 : (K == 0) = true := by simpa using a1
      have HBD := Lib.hid (show K = 0 ∨ (OW ≠ 0 ∧ so ≠ 0 ∧ OW ≠ so) from Or.inl a1)
      clear a1 hKr
      go_wp2_with fail
      refine (fail_any _ _).mono ?_
      rintro e w3 ⟨rfl, rfl⟩
      unfold faultP
      go_wp2
      rw [HV.out, if_pos HBD.out]
      exact ⟨rfl, rfl, HF2.out⟩
    have b1 : (K == 0) = false := by simpa using a1
    have b1' : (K != 0) = true := by simpa using a1
    by_cases a2 : OW = 0
    · have b2 : (OW == 0) = true := by simpa using a2
      have b2' : (OW != 0) = false := by simpa using a2
      have HBD := Lib.hid (show ¬ (K = 0 ∨ (OW ≠ 0 ∧ so ≠ 0 ∧ OW ≠ so)) from fun h => h.elim a1 (fun h => h.1 a2))
      clear a1 a2 hKr
      go_wp2_with fail
      go_meet
      case rel => exact ⟨rfl, rfl, HBD⟩
    have b2 : (OW == 0) = false := by simpa using a2
    have b2' : (OW != 0) = true := by simpa using a2
    by_cases a3 : so = 0
    · have b3 : (so == 0) = true := by simpa using a3
      have b3' : (so != 0) = false := by simpa using a3
      have HBD := Lib.hid (show ¬ (K = 0 ∨ (OW ≠ 0 ∧ so ≠ 0 ∧ OW ≠ so)) from fun h => h.elim a1 (fun h => h.2.1 a3))
      clear a1 a2 a3 hKr
      go_wp2_with fail
      go_meet
      case rel => exact ⟨rfl, rfl, HBD⟩
    have b3 : (so == 0) = false := by simpa using a3
    have b3' : (so != 0) = true := by simpa using a3
    by_cases a4 : OW = so
    · have b4 : (OW == so) = true := by simpa using a4
      have b4' : (OW != so) = false := by simpa using a4
      have HBD := Lib.hid (show ¬ (K = 0 ∨ (OW ≠ 0 ∧ so ≠ 0 ∧ OW ≠ so)) from fun h => h.elim a1 (fun h => h.2.2 a4))
      clear a1 a2 a3 a4 hKr
      go_wp2_with fail
      go_meet
      case rel => exact ⟨rfl, rfl, HBD⟩
    have b4 : (OW == so) = false := by simpa using a4
    have b4' : (OW != so) = true := by simpa using a4
    have HBD := Lib.hid (show K = 0 ∨ (OW ≠ 0 ∧ so ≠ 0 ∧ OW ≠ so) from Or.inr ⟨a2, a3, a4⟩)
    clear a1 a2 a3 a4 hKr
    go_wp2_with fail
    refine (fail_any _ _).mono ?_
    rintro e w3 ⟨rfl, rfl⟩
    unfold faultP
    go_wp2
    rw [HV.out, if_pos HBD.out]
    exact ⟨rfl, rfl, HF2.out⟩
  case rest =>
  obtain ⟨rfl, hw, HBD⟩ := hcut
  subst hw
  have HVB := Lib.hid (show listP lv tp c.E so N r = bodyP lv tp c.E K N q by rw [HV.out, if_neg HBD.out])
  have hb := al wc (boxK K 0 0 0)
  have hbw : w.heap.size < wc.heap.size := by rw [hWs]; omega
  obtain ⟨b, hbE⟩ : ∃ b, wc.heap.size = b := ⟨_, rfl⟩
  have HL1 := Lib.hid (show LSt c (sl + 200) N w b K 0 0 0 (.slice none 0 0) q (wc.alloc (boxK K 0 0 0)) from ⟨(HS2.out.later hb).less (by omega), HF2.out.trans (Fr.later hb HS2.out.lo), HT2.out.keep (hb.mono HS2.out.lo), (hb.block _ (hlt_of HG2.out)).trans HG2.out, by rw [← hbE]; exact alloc_new _ _⟩)
  rw [hbE] at hbw
  clear hb d1 d2
  go_step
  go_step
  go_cut [8] (fun s8 wx => s8 = .pointer (some ⟨b, 0, none⟩) ∧ wx = wc.alloc (boxK K 0 0 0))
  case first =>
    go_wp2_with fail
    go_meet
    case rel => exact ⟨by rw [← hbE, hWs], rfl⟩
  case rest =>
  obtain ⟨rfl, hw⟩ := hcut
  rw [← hw] at HL1
  clear hw
  go_step
  go_step
  go_cut [6] (fun s6 wx => s6 = .int .i64 K ∧ ∃ n q1, Hid (symP c.E K q = .ok (n, q1) ∧ LSt c (sl + 200) N w b K 0 0 n (.slice none 0 0) q1 wx ∧ q1.length ≤ q.length ∧ 0 ≤ n ∧ n ≤ 30))
  case first =>
    by_cases a1 : K = 23
    · have b1 : (K == 23) = true := by simpa using a1
      have HKK := Lib.hid a1
      obtain ⟨r0, r1, r2, r5, rlt⟩ := HL1.out.st.cells
      clear a1
      go_wp2_with fail
      refine (HL1.out.st.rtake 3).mono ?_
      intro e w3 hg
      cases hx : takeT c.E 3 q with
      | error a =>
        rw [hx] at hg
        obtain ⟨rfl, hf⟩ := hg
        unfold faultP
        go_wp2
        rw [HVB.out, body1 (show symP c.E K q = .error a by unfold symP; rw [if_pos HKK.out, hx])]
        exact ⟨rfl, rfl, HL1.out.fr.trans hf⟩
      | ok m =>
      obtain ⟨t3, q1⟩ := m
      rw [hx] at hg
      obtain ⟨rfl, hs3, hf3⟩ := hg
      have hbt := al w3 (.cells #[.int .i64 t3.k, .string ⟨t3.s.toArray⟩, .int .i64 t3.at_] 97)
      have HX3 := Lib.hid hx
      have HL2 := Lib.hid ((HL1.out.on hf3 hs3).on (Fr.later hbt hs3.lo) ((hs3.later hbt).less (sl' := sl + 200) (by omega)))
      have HW3 := Lib.hid (alloc_new w3 (.cells #[.int .i64 t3.k, .string ⟨t3.s.toArray⟩, .int .i64 t3.at_] 97))
      have hblt : b < w3.heap.size := by have h1 := hf3.size; have h2 := hlt_of HL1.out.bx; omega
      clear hs3 hf3 hbt hx r0 r1 r2 r5 rlt
      obtain ⟨m, hm⟩ : ∃ m, symN t3.s = m := ⟨_, rfl⟩
      have hmr := symN_range t3.s
      rw [hm] at hmr
      go_wp2_with fail
      refine (symbol_any c.B t3.s _ HL2.out.tab).mono ?_
      rintro e w4 ⟨rfl, rfl⟩
      rw [hm]
      obtain ⟨W3, hW3⟩ : ∃ W3, W3 = w3.alloc (.cells #[.int .i64 t3.k, .string ⟨t3.s.toArray⟩, .int .i64 t3.at_] 97) := ⟨_, rfl⟩
      rw [← hW3] at HL2 HW3
      rw [← hW3]
      obtain ⟨⟨q0, q1x, q2, q3, q4⟩, ⟨g0, g1x, g2, g3, g4⟩, hGl⟩ := cells5_of HL2.out.bx
      have HL3 := Lib.hid (HL2.out.setN hlo hbw m)
      have x2 : (W3.setCell ⟨b, 3, none⟩ (.int .i64 m)).cell? ⟨w3.heap.size, 2, none⟩ = some (.int .i64 t3.at_) := by
        rw [Lib.cell_of_heap (((g1 W3 b 3 (.int .i64 m)).block _ (hlt_of HW3.out) (fun e => by have := Option.some.inj e; omega)).trans HW3.out)]; rfl
      have HSM := Lib.hid hm
      clear hm hW3
      by_cases a2 : m = 0
      · have b2 : (m == 0) = true := by simpa using a2
        have HM := Lib.hid a2
        clear a2
        go_wp2_with fail
        refine (fail_any _ _).mono ?_
        rintro e w5 ⟨rfl, rfl⟩
        unfold faultP
        go_wp2
        rw [HVB.out, body1 (show symP c.E K q = .error t3.at_ by unfold symP; rw [if_pos HKK.out, HX3.out]; simp only; rw [HSM.out, if_pos HM.out])]
        exact ⟨rfl, rfl, HL3.out.fr⟩
      · have b2 : (m == 0) = false := by simpa using a2
        have HM := Lib.hid a2
        clear a2
        go_wp2_with fail
        go_meet
        case rel => exact ⟨rfl, m, q1, Lib.hid ⟨by unfold symP; rw [if_pos HKK.out, HX3.out]; simp only; rw [HSM.out, if_neg HM.out], HL3.out, by have := takeT_len HX3.out; omega, hmr.1, hmr.2⟩⟩
    · have b1 : (K == 23) = false := by simpa using a1
      have HKK := Lib.hid a1
      clear a1
      go_wp2_with fail
      go_meet
      case rel => exact ⟨rfl, 0, q, Lib.hid ⟨by unfold symP; rw [if_neg HKK.out], HL1.out, Nat.le_refl _, by omega, by omega⟩⟩
  case rest =>
  obtain ⟨rfl, n, q1, HA⟩ := hcut
  obtain ⟨LV, hLV⟩ : ∃ LV, levelsN K = LV := ⟨_, rfl⟩
  have hLr := levelsN_range K
  rw [hLV] at hLr
  have HLE2 := Lib.hid hLV
  clear hLV HL1
  go_step
  go_step
  go_cut [10] (fun s10 wx => s10 = .int .i64 LV ∧ wx = wc)
  case first =>
    go_wp2_with fail
    refine (levelsOf_any K _).mono ?_
    rintro e w3 ⟨rfl, rfl⟩
    go_wp2_with fail
    go_meet
    case rel => exact ⟨by rw [HLE2.out], rfl⟩
  case rest =>
  obtain ⟨rfl, hw⟩ := hcut
  subst hw
  go_step
  go_step
  go_cut [10] (fun s10 wx => s10 = .int .i64 LV ∧ ∃ i q2, Hid (lvaP lv K q1 = .ok (i, q2) ∧ LSt c (sl + 200) N w b K i 0 n (.slice none 0 0) q2 wx ∧ q2.length ≤ q1.length ∧ 0 ≤ i ∧ i ≤ 10000000))
  case first =>
    have HL2 := Lib.hid HA.out.2.1
    obtain ⟨r0, r1, r2, r5, rlt⟩ := HL2.out.st.cells
    by_cases a1 : 0 < LV
    · have HP := Lib.hid (show 0 < levelsN K by rw [HLE2.out]; exact a1)
      go_wp2_with fail
      refine (HLV.out.use q1 (sl + 200) N _ (by have := HA.out.2.2.1; have := HQ2.out; omega) HL2.out.st).mono ?_
      intro e w3 hg
      cases hx : lv q1 with
      | error a =>
        rw [hx] at hg
        obtain ⟨rfl, hf⟩ := hg
        unfold faultP
        go_wp2
        rw [HVB.out, body2 HA.out.1 (show lvaP lv K q1 = .error a by unfold lvaP; rw [if_pos HP.out, hx])]
        exact ⟨rfl, rfl, HL2.out.fr.trans hf⟩
      | ok m =>
      obtain ⟨i, q2⟩ := m
      rw [hx] at hg
      obtain ⟨rfl, hs3, hf3, h0, h1⟩ := hg
      have HL3 := Lib.hid (HL2.out.on hf3 hs3)
      obtain ⟨⟨y0, y1, y2, y3, y4⟩, ⟨g0, g1x, g2, g3, g4⟩, hGl⟩ := cells5_of HL3.out.bx
      have HL4 := Lib.hid (HL3.out.setI hlo hbw i)
      have HX3 := Lib.hid hx
      have HLN := Lib.hid (HLL.out _ _ _ hx).1
      clear hs3 hf3 hx
      go_wp2_with fail
      go_meet
      case rel => exact ⟨rfl, i, q2, Lib.hid ⟨by unfold lvaP; rw [if_pos HP.out, HX3.out], HL4.out, by have := HLN.out; omega, h0, h1⟩⟩
    · have HP := Lib.hid (show levelsN K ≤ 0 by rw [HLE2.out]; omega)
      go_wp2_with fail
      go_meet
      case rel => exact ⟨rfl, 0, q1, Lib.hid ⟨by unfold lvaP; rw [if_neg (by have := HP.out; omega)], HL2.out, Nat.le_refl _, by omega, by omega⟩⟩
  case rest =>
  obtain ⟨rfl, i, q2, HBB⟩ := hcut
  go_step
  go_step
  go_cut [10] (fun s10 wx => s10 = .int .i64 LV ∧ ∃ j q3, Hid (lvbP lv K q2 = .ok (j, q3) ∧ LSt c (sl + 200) N w b K i j n (.slice none 0 0) q3 wx ∧ q3.length ≤ q2.length ∧ 0 ≤ j ∧ j ≤ 10000000))
  case first =>
    have HL2 := Lib.hid HBB.out.2.1
    obtain ⟨r0, r1, r2, r5, rlt⟩ := HL2.out.st.cells
    by_cases a1 : 1 < LV
    · have HP := Lib.hid (show 1 < levelsN K by rw [HLE2.out]; exact a1)
      go_wp2_with fail
      refine (HLV.out.use q2 (sl + 200) N _ (by have := HBB.out.2.2.1; have := HA.out.2.2.1; have := HQ2.out; omega) HL2.out.st).mono ?_
      intro e w3 hg
      cases hx : lv q2 with
      | error a =>
        rw [hx] at hg
        obtain ⟨rfl, hf⟩ := hg
        unfold faultP
        go_wp2
        rw [HVB.out, body3 HA.out.1 HBB.out.1 (show lvbP lv K q2 = .error a by unfold lvbP; rw [if_pos HP.out, hx])]
        exact ⟨rfl, rfl, HL2.out.fr.trans hf⟩
      | ok m =>
      obtain ⟨j, q3⟩ := m
      rw [hx] at hg
      obtain ⟨rfl, hs3, hf3, h0, h1⟩ := hg
      have HL3 := Lib.hid (HL2.out.on hf3 hs3)
      obtain ⟨⟨y0, y1, y2, y3, y4⟩, ⟨g0, g1x, g2, g3, g4⟩, hGl⟩ := cells5_of HL3.out.bx
      have HL4 := Lib.hid (HL3.out.setJ hlo hbw j)
      have HX3 := Lib.hid hx
      have HLN := Lib.hid (HLL.out _ _ _ hx).1
      clear hs3 hf3 hx
      go_wp2_with fail
      go_meet
      case rel => exact ⟨rfl, j, q3, Lib.hid ⟨by unfold lvbP; rw [if_pos HP.out, HX3.out], HL4.out, by have := HLN.out; omega, h0, h1⟩⟩
    · have HP := Lib.hid (show levelsN K ≤ 1 by rw [HLE2.out]; omega)
      go_wp2_with fail
      go_meet
      case rel => exact ⟨rfl, 0, q2, Lib.hid ⟨by unfold lvbP; rw [if_neg (by have := HP.out; omega)], HL2.out, Nat.le_refl _, by omega, by omega⟩⟩
  case rest =>
  obtain ⟨rfl, j, q3, HC⟩ := hcut
  have HVC := Lib.hid (HVB.out.trans (body4 HA.out.1 HBB.out.1 HC.out.1))
  have HQ3 := Lib.hid (show q3.length ≤ q.length by have := HA.out.2.2.1; have := HBB.out.2.2.1; have := HC.out.2.2.1; omega)
  have HNR := Lib.hid (show 0 ≤ n ∧ n ≤ 30 ∧ 0 ≤ i ∧ i ≤ 10000000 ∧ 0 ≤ j ∧ j ≤ 10000000 from ⟨HA.out.2.2.2.1, HA.out.2.2.2.2, HBB.out.2.2.2.1, HBB.out.2.2.2.2, HC.out.2.2.2.1, HC.out.2.2.2.2⟩)
  have HL2 := Lib.hid HC.out.2.1
  clear HA HBB HC
  go_step
  go_step
  go_cut [6] (fun s6 wx => s6 = .int .i64 K ∧ ∃ (l : List Tm) (a : Option Addr) (cap : Nat) (q4 : List Tok), Hid (kdsP tp c.E K n N q3 = .ok (l, q4) ∧ LSt c (sl + 100) N w b K i j n (.slice a l.length cap) q4 wx ∧ LiesP wx (Own (w.heap.size + 1) wx) l (.slice a l.length cap)))
  case first =>
    obtain ⟨r0, r1, r2, r5, rlt⟩ := HL2.out.st.cells
    by_cases a1 : K = 22
    · have b1 : (K == 22) = true := by simpa using a1
      have HP := Lib.hid a1
      clear a1
      go_wp2_with fail
      refine (HKJ.out q3 (sl + 100) _ (by have := HQ3.out; have := HQ2.out; omega) (HL2.out.st.less (by omega)) HL2.out.tab).mono ?_
      intro e w3 hg
      cases hx : kidsJ tp c.E N q3 with
      | error a =>
        rw [hx] at hg
        obtain ⟨rfl, hf⟩ := hg
        unfold faultP
        go_wp2
        rw [HVC.out, show kdsP tp c.E K n N q3 = .error a by unfold kdsP; rw [if_pos HP.out, hx]]
        exact ⟨rfl, rfl, HL2.out.fr.trans hf⟩
      | ok m =>
      obtain ⟨l, q4⟩ := m
      rw [hx] at hg
      obtain ⟨s, rfl, hl, hs3, hf3⟩ := hg
      obtain ⟨a, cap, rfl, -, -⟩ := hl.out
      have HL3 := Lib.hid (HL2.out.on hf3 hs3)
      have hbl := hlt_of HL2.out.bx
      obtain ⟨⟨y0, y1, y2, y3, y4⟩, ⟨g0, g1x, g2, g3, g4⟩, hGl⟩ := cells5_of HL3.out.bx
      have HL4 := Lib.hid (HL3.out.setS hlo hbw (.slice a l.length cap))
      have HLS := Lib.hid ((liesP_grown hl (g1 w3 b 4 (.slice a l.length cap)) hbl).from (B' := w.heap.size + 1) (by omega))
      have HX3 := Lib.hid hx
      clear hs3 hf3 hx hl
      go_wp2_with fail
      go_meet
      case rel => exact ⟨rfl, l, a, cap, q4, Lib.hid ⟨by unfold kdsP; rw [if_pos HP.out, HX3.out], HL4.out, HLS.out⟩⟩
    · have b1 : (K == 22) = false := by simpa using a1
      have HP := Lib.hid a1
      clear a1
      obtain ⟨⟨y0, y1, y2, y3, y4⟩, ⟨g0, g1x, g2, g3, g4⟩, hGl⟩ := cells5_of HL2.out.bx
      go_wp2_with fail
      refine (HKK.out K i j n OW q3 (sl + 100) _ (by have := HQ3.out; have := HQ2.out; omega) (HL2.out.st.less (by omega)) HL2.out.tab).mono ?_
      intro e w3 hg
      cases hx : kidsK tp c.E K n OW N q3 with
      | error a =>
        rw [hx] at hg
        obtain ⟨rfl, hf⟩ := hg
        unfold faultP
        go_wp2
        rw [HVC.out, show kdsP tp c.E K n N q3 = .error a by unfold kdsP; rw [if_neg HP.out, HOE.out, hx]]
        exact ⟨rfl, rfl, HL2.out.fr.trans hf⟩
      | ok m =>
      obtain ⟨l, q4⟩ := m
      rw [hx] at hg
      obtain ⟨s, rfl, hl, hs3, hf3⟩ := hg
      obtain ⟨a, cap, rfl, -, -⟩ := hl.out
      have HL3 := Lib.hid (HL2.out.on hf3 hs3)
      clear y0 y1 y2 y3 y4 g0 g1x g2 g3 g4
      obtain ⟨⟨y0, y1, y2, y3, y4⟩, ⟨g0, g1x, g2, g3, g4⟩, hGl3⟩ := cells5_of HL3.out.bx
      have HL4 := Lib.hid (HL3.out.setS hlo hbw (.slice a l.length cap))
      have HLS := Lib.hid ((liesP_grown hl (g1 w3 b 4 (.slice a l.length cap)) hGl).from (B' := w.heap.size + 1) (by omega))
      have HX3 := Lib.hid hx
      clear hs3 hf3 hx hl
      go_wp2_with fail
      go_meet
      case rel => exact ⟨rfl, l, a, cap, q4, Lib.hid ⟨by unfold kdsP; rw [if_neg HP.out, HOE.out, HX3.out], HL4.out, HLS.out⟩⟩
  case rest =>
  obtain ⟨rfl, l, a, cap, q4, HD⟩ := hcut
  have HL3 := Lib.hid HD.out.2.1
  clear HL2
  obtain ⟨r0, r1, r2, r5, rlt⟩ := HL3.out.st.cells
  go_wp2_with fail
  refine (HL3.out.st.rtake 2).mono ?_
  intro e w3 hg
  cases hx : takeT c.E 2 q4 with
  | error a =>
    rw [hx] at hg
    obtain ⟨rfl, hf⟩ := hg
    unfold faultP
    go_wp2
    rw [HVC.out, HD.out.1]; simp only; rw [hx]
    exact ⟨rfl, rfl, HL3.out.fr.trans hf⟩
  | ok m =>
  obtain ⟨t4, q5⟩ := m
  rw [hx] at hg
  obtain ⟨rfl, hs3, hf3⟩ := hg
  have HL4 := Lib.hid (HL3.out.on hf3 hs3)
  obtain ⟨⟨y0, y1, y2, y3, y4⟩, ⟨g0, g1x, g2, g3, g4⟩, hGl⟩ := cells5_of HL4.out.bx
  obtain ⟨⟨z0, z1, z2, z3, z4⟩, ⟨f0, f1, f2, f3, f4⟩, hZl⟩ := cells5_of HL4.out.zg
  have HZ := Lib.hid HL4.out.zg
  have HE := Lib.hid (term_end (t := .mk K i j n l) (w2 := cell5 w3 w.heap.size 0 (.int .i64 K) (.int .i64 i) (.int .i64 j) (.int .i64 n) (.slice a l.length cap)) hlo HL4.out.fr (cell5_grown _ _ _ _ _ _ _ _) HZ.out (HL4.out.st.less (sl' := sl) (by omega)) (liesP_fr HD.out.2.2 hf3))
  have HX4 := Lib.hid hx
  clear hs3 hf3 hx r0 r1 r2 r5 rlt
  go_wp2
  refine bodyPost_ret (results_cell_row rfl _ _ w.heap.size _ _ _ du rfl (five_set HZ.out) hu1 (by cases du <;> first | rfl | exact hu2) size_term) rfl ?_
  rw [HVC.out, HD.out.1]; simp only; rw [HX4.out]
  refine ⟨.slice a l.length cap, rfl, HE.out.1, ?_, HE.out.2.1, HE.out.2.2⟩
  have := HNR.out
  unfold Tm.fine I64
  simp only [Tm.k, Tm.i, Tm.j, Tm.n]
  omega
end Go.Proofs.YtllkackipdcekaaDoor

namespace Go.Proofs.YtllkackipdcekaaDoor
open Go.RowKit Go.Maps Go.ChangeShapes

theorem rterm_any (c : RC) (hij : (0 ≤ c.i ∧ c.i ≤ 1000) ∧ 0 ≤ c.j ∧ c.j ≤ 1000) : ∀ f, TermC c f (termP c.E c.i c.j f)
  | 0 => fun so N ts sl w hf _ _ => by omega
  | f + 1 => rterm_step c f (rlist_any c f (levelP c.E c.i c.j f) (termP c.E c.i c.j f) (rlevel_any c hij f) (fun ts n r h => ⟨levelP_len h, levelP_most h⟩) (rterm_any c hij f) (fun s N ts t r h => termP_len h))
end Go.Proofs.YtllkackipdcekaaDoor

namespace Go.Proofs.YtllkackipdcekaaDoor
open Go.RowKit Go.Maps Go.ChangeShapes

def toksO (x : List Tok × Option Nat) : List Tok := match x with
  | (ts, none) => ts
  | (_, some _) => []
/-- The tokens of a text, where they end, and whether a fault stands there. -/
def ofL (l : List UInt8) : List Tok × Nat × Bool := match lexL l 0 with
  | (ts, none) => (ts, l.length, false)
  | (_, some p) => (toksO (lexL (l.take p) 0), p, true)
theorem lexL_bound {l : List UInt8} : ∀ (n p : Nat), l.length - p ≤ n → (∀ q, (lexL l p).2 = some q → q < l.length) ∧ (∀ t ∈ (lexL l p).1, t.s.length ≤ l.length ∧ t.at_ < l.length) ∧ (lexL l p).1.length + min p l.length ≤ l.length
  | 0, p, h => by
    rw [lexL_end (by omega)]
    exact ⟨fun q hq => (by cases hq), fun t ht => (by cases ht), by simp; omega⟩
  | n + 1, p, h => by
    by_cases h1 : p + skipL (l.drop p) < l.length
    · cases hn : nextL (l.drop (p + skipL (l.drop p))) with
      | none =>
        rw [lexL_fault rfl h1 hn]
        exact ⟨fun q hq => (by obtain rfl := Option.some.inj hq; exact h1), fun t ht => (by cases ht), by simp; omega⟩
      | some x =>
        obtain ⟨k, m⟩ := x
        have hb := (nextL_range hn).2.1
        have hb1 := (nextL_range hn).1
        rw [lexL_next rfl h1 hn]
        have hr := lexL_bound (l := l) n (p + skipL (l.drop p) + m) (by omega)
        refine ⟨hr.1, fun t ht => ?_, ?_⟩
        · rcases List.mem_cons.1 ht with rfl | ht
          · exact ⟨by simp; omega, h1⟩
          · exact hr.2.1 t ht
        · have := hr.2.2
          simp only [List.length_cons]
          rw [List.length_drop] at hb
          omega
    · rw [lexL_end h1]
      exact ⟨fun q hq => (by cases hq), fun t ht => (by cases ht), by simp; omega⟩
theorem ofL_bound (l : List UInt8) : (ofL l).1.length ≤ l.length ∧ (ofL l).2.1 ≤ l.length ∧ ∀ t ∈ (ofL l).1, t.s.length ≤ l.length ∧ t.at_ ≤ l.length := by
  have h := lexL_bound (l := l) l.length 0 (by omega)
  unfold ofL
  rcases hx : lexL l 0 with ⟨ts, o⟩
  rw [hx] at h
  cases o with
  | none =>
    simp only
    exact ⟨by have := h.2.2; simp at this; omega, Nat.le_refl _, fun t ht => ⟨(h.2.1 t ht).1, Nat.le_of_lt (h.2.1 t ht).2⟩⟩
  | some p =>
    have hp : p < l.length := h.1 p rfl
    have k := lexL_bound (l := l.take p) (l.take p).length 0 (by omega)
    have hl : (l.take p).length = p := by rw [List.length_take]; omega
    rw [hl] at k
    simp only
    rcases hy : lexL (l.take p) 0 with ⟨us, o⟩
    rw [hy] at k
    cases o with
    | none => exact ⟨by show us.length ≤ _; have := k.2.2; simp at this; omega, by omega, fun t ht => by have := k.2.1 t ht; exact ⟨by omega, by omega⟩⟩
    | some q => exact ⟨by show 0 ≤ _; omega, by omega, fun t ht => (by cases ht)⟩
theorem toks_lies {B : Nat} {w : World} {v : Value} {ts : List Tok} (h : Toks 97 B w v ts) : TLies w ts v := by
  obtain ⟨h1, h2⟩ := h
  rcases h2 with ⟨rfl, h0⟩ | ⟨g, cap, cur, rfl, hg, hh, hn, hc, hs, ht⟩
  · have h3 : ts = [] := List.eq_nil_of_length_eq_zero h0
    subst h3
    exact ⟨none, 0, rfl, Nat.le_refl _, by unfold maxLen; omega, Or.inl rfl⟩
  · exact ⟨some ⟨g, 0, none⟩, cap, rfl, hn, hc, Or.inr ⟨g, 0, cur, (0, 0), rfl, hh, by rw [List.drop_zero]; exact ht⟩⟩
def OfG (w : World) (x : List Tok × Nat × Bool) (e : Ending) (w' : World) : Prop := ∃ tv, e = .returned (.pointer (some ⟨w'.heap.size - 1, 0, none⟩)) ∧ w.heap.size < w'.heap.size ∧ SAt w' (w'.heap.size - 1) tv x.2.1 x.2.2 ∧ TLies w' x.1 tv ∧ Below w.heap.size w w'
theorem ofG_of {w w1 : World} {x : List Tok × Nat × Bool} {tv : Value} (hB : Below w.heap.size w w1) (hT : TLies w1 x.1 tv) : OfG w x (.returned (.pointer (some ⟨w1.heap.size, 0, none⟩))) (w1.alloc (.cells #[tv, .int .i64 x.2.1, .bool x.2.2] 94)) := by
  have hb := (Below.refl w1.heap.size w1).alloc (Nat.le_refl _) (.cells #[tv, .int .i64 x.2.1, .bool x.2.2] 94)
  have hs : (w1.alloc (.cells #[tv, .int .i64 x.2.1, .bool x.2.2] 94)).heap.size - 1 = w1.heap.size := by simp
  have := hB.size
  unfold OfG
  rw [hs]
  exact ⟨tv, rfl, by simp; omega, alloc_new _ _, hT.keep fun g cs fz e => by rw [hb.block _ (hlt_of e)]; exact e, hB.trans (hb.mono hB.size)⟩
set_option maxHeartbeats 2000000 in
set_option maxRecDepth 20000 in
theorem of_any (s : ByteArray) (w : World) (hs : s.size ≤ 10000000) : Calls Tryd.prog 41 #[.string s] w (OfG w (ofL s.data.toList)) := by
  have HLX := Lib.hid (fun (s : ByteArray) (w : World) (h : s.size ≤ 10000000) => lex_any s w h)
  have hsl : s.data.toList.length = s.size := by simp
  have HSL := Lib.hid hsl
  clear hsl
  go_enter Tryd.func41, Tryd.ntmps41
  go_wp2_with fail
  refine (HLX.out s w hs).mono ?_
  intro e w1 hg
  cases hl : lexL s.data.toList 0 with
  | mk ts o =>
  rw [hl] at hg
  obtain ⟨hB, hg⟩ := hg
  cases o with
  | none =>
    obtain ⟨v, hT, rfl⟩ := hg
    have HO := Lib.hid (show ofL s.data.toList = (ts, s.size, false) by unfold ofL; rw [hl]; simp only; rw [HSL.out])
    obtain ⟨a, cap, rfl, hv⟩ := toks_lies hT
    have HT := Lib.hid (show TLies w1 ts (.slice a ts.length cap) from ⟨a, cap, rfl, hv⟩)
    have HB := Lib.hid hB
    clear hT hB hl hv
    go_wp2
    go_ret
    rw [HO.out]
    exact ofG_of (x := (ts, s.size, false)) HB.out HT.out
  | some p =>
    obtain rfl := hg
    have hp : p < s.size := by have := (lexL_bound (l := s.data.toList) s.data.toList.length 0 (by omega)).1 p (by rw [hl]); rw [HSL.out] at this; exact this
    obtain ⟨P, hP⟩ : ∃ P, s.extract 0 p = P := ⟨_, rfl⟩
    have hPd : P.data.toList = s.data.toList.take p := by rw [← hP]; exact (Lib.extract_data s 0 p).trans (by simp)
    have hPs : P.size ≤ 10000000 := by
      have h1 : P.data.toList.length = P.size := by simp
      rw [hPd, List.length_take] at h1
      omega
    have hsli : ∀ w', (Instr.slice 9 (.string s) none (some (.int .i64 (p : Int))) none).run Tryd.prog w' = .ok (.string P) w' := fun w' => by
      rw [← hP]; exact run_slice_string_h w' 9 s Tryd.underlying9 .i64 (p : Int) (by omega) (by omega)
    have HO := Lib.hid (show ofL s.data.toList = (toksO (lexL P.data.toList 0), p, true) by unfold ofL; rw [hl, hPd])
    have HB := Lib.hid hB
    clear hB hl hP hPd
    go_wp2_with fail
    refine (HLX.out P w1 hPs).mono ?_
    intro e w2 hg
    cases hl : lexL P.data.toList 0 with
    | mk us o =>
    rw [hl] at hg HO
    obtain ⟨hB2, hg⟩ := hg
    have HB2 := Lib.hid (HB.out.trans (hB2.mono HB.out.size))
    cases o with
    | none =>
      obtain ⟨v, hT, rfl⟩ := hg
      obtain ⟨a, cap, rfl, hv⟩ := toks_lies hT
      have HT := Lib.hid (show TLies w2 us (.slice a us.length cap) from ⟨a, cap, rfl, hv⟩)
      clear hT hB2 hl hv
      go_wp2
      go_ret
      rw [HO.out]
      exact ofG_of (x := (us, p, true)) HB2.out HT.out
    | some q =>
      obtain rfl := hg
      clear hB2 hl
      go_wp2
      go_ret
      rw [HO.out]
      exact ofG_of (x := ([], p, true)) HB2.out ⟨none, 0, rfl, Nat.le_refl _, by unfold maxLen; omega, Or.inl rfl⟩
/-- The end of the reading. -/
def endP (E : Nat) (br : Bool) (ts : List Tok) : Except Nat Unit := if ts = [] ∧ br = false then .ok () else .error (hereT E ts)
def EndG (w : World) (x : Except Nat Unit) (e : Ending) (w' : World) : Prop := w = w' ∧ match x with
  | .error a => e = faultP a
  | .ok _ => e = .returned (.tuple #[])
set_option maxRecDepth 20000 in
theorem end_any (S : Nat) (v : Value) (E : Nat) (br : Bool) (ts : List Tok) (w : World) (hS : SAt w S v E br) (hv : TLies w ts v) : Calls Tryd.prog 44 #[.pointer (some ⟨S, 0, none⟩)] w (EndG w (endP E br ts)) := by
  have HH := Lib.hid (here_any S v E br ts w hS hv)
  have c0 : w.cell? ⟨S, 0, none⟩ = some v := by rw [Lib.cell_of_heap hS]; rfl
  have c2 : w.cell? ⟨S, 2, none⟩ = some (.bool br) := by rw [Lib.cell_of_heap hS]; rfl
  obtain ⟨a, cap, rfl, -, hcp, -⟩ := hv
  clear hS
  by_cases h0 : ts = []
  · cases br with
    | false =>
      have HE := Lib.hid (show endP E false ts = .ok () from if_pos ⟨h0, rfl⟩)
      subst h0
      go_enter Tryd.func44, Tryd.ntmps44
      go_wp2
      go_end0
      rw [HE.out]
      exact ⟨rfl, rfl⟩
    | true =>
      have HE := Lib.hid (show endP E true ts = .error (hereT E ts) from if_neg (fun h => by cases h.2))
      subst h0
      go_enter Tryd.func44, Tryd.ntmps44
      go_wp2_with fail
      refine HH.out.mono ?_
      rintro e w1 ⟨rfl, rfl⟩
      go_wp2_with fail
      refine (fail_any _ _).mono ?_
      rintro e w1 ⟨rfl, rfl⟩
      unfold faultP
      go_wp2
      rw [HE.out]
      exact ⟨rfl, rfl, rfl⟩
  · have HE := Lib.hid (show endP E br ts = .error (hereT E ts) from if_neg (fun h => h0 h.1))
    have hl : 0 < ts.length := List.length_pos_iff.2 h0
    clear h0
    go_enter Tryd.func44, Tryd.ntmps44
    go_wp2_with fail
    refine HH.out.mono ?_
    rintro e w1 ⟨rfl, rfl⟩
    go_wp2_with fail
    refine (fail_any _ _).mono ?_
    rintro e w1 ⟨rfl, rfl⟩
    unfold faultP
    go_wp2
    rw [HE.out]
    exact ⟨rfl, rfl, rfl⟩
end Go.Proofs.YtllkackipdcekaaDoor

namespace Go.Proofs.YtllkackipdcekaaDoor
open Go.RowKit Go.Maps Go.ChangeShapes

theorem below_grown {B b : Nat} {w w' : World} (hB : B ≤ b) (hg : w.grownBy w' (some b)) (hlo : B ≤ w.heap.size) : Below B w w' := ⟨hg.os, hg.tape, hg.output, hg.size, fun k hk => hg.block k (by omega) (fun e => by have := Option.some.inj e; omega)⟩
abbrev W5' (w : World) (B at_ : Nat) : World := (w.setCell ⟨B + 1, 0, none⟩ (.int .i64 2)).setCell ⟨B + 2, 0, none⟩ (.int .i64 at_)
theorem assert_fault (at_ : Nat) (w : World) : (Instr.typeAssert (.iface 71 (.agg #[.int .i64 at_])) 20 71 true).run Tryd.prog w = .ok (.tuple #[.agg #[.int .i64 at_], .bool true]) w := by kernel_rfl
/-- What the closure leaves in the results of a reading that failed. -/
def CatchG (B : Nat) (at_ : Nat) (w w' : World) : Prop := w'.heap[B]? = some (.cells #[.int .i64 0, .int .i64 0, .int .i64 0, .int .i64 0, .slice none 0 0] 26) ∧ w'.heap[B + 1]? = some (.cells #[.int .i64 2] 27) ∧ w'.heap[B + 2]? = some (.cells #[.int .i64 at_] 3) ∧ Below B w w'
set_option maxHeartbeats 2000000 in
set_option maxRecDepth 20000 in
theorem catch_panicking (B : Nat) (at_ : Nat) (w : World) {v0 v1 v2 v3 v4 x y : Value} (hT : w.heap[B]? = some (.cells #[v0, v1, v2, v3, v4] 26 (0, 0))) (hE : w.heap[B + 1]? = some (.cells #[x] 27 (0, 0))) (hA : w.heap[B + 2]? = some (.cells #[y] 3 (0, 0))) :
    CallsD Tryd.prog 42 #[.pointer (some ⟨B, 0, none⟩), .pointer (some ⟨B + 1, 0, none⟩), .pointer (some ⟨B + 2, 0, none⟩)] (.panicking ({ v := .iface 71 (.agg #[.int .i64 at_]), recovered := false } :: [])) w fun e u' w' =>
      e = .returned (.tuple #[]) ∧ u' = .panicking ({ v := .iface 71 (.agg #[.int .i64 at_]), recovered := true } :: []) ∧ CatchG B at_ w w' := by
  refine callsD_of_wpS Tryd.func42 rfl fun c₀ cs hu => ?_
  apply wpS_seq
  apply wpS_region
  simp [wpOpsS, go_sem, recoverD, hu, Tryd.ntmps42, Exit.thenS]
  apply wpS_seq
  apply wpS_region
  simp [wpOpsS, go_sem, Exit.thenS]
  refine wpS_cond (t := true) (by simp [Act.eval, Array.replicate]) ?_
  simp only [if_true]
  refine wpS_of_wp (wp_mono (Q := fun e a' w' => e = Exit.normal ∧ a'.defers = [] ∧ CatchG B at_ w w') ?_ (fun e a' w' h => ?_))
  · have hta := assert_fault at_
    obtain ⟨du, hu1, hu2⟩ := under_term
    have hb := (Below.refl w.heap.size w).alloc (Nat.le_refl _) (.cells #[.int .i64 at_] 71)
    have hT1 := (hb.block _ (hlt_of hT)).trans hT
    have hE1 := (hb.block _ (hlt_of hE)).trans hE
    have hA1 := (hb.block _ (hlt_of hA)).trans hA
    have hF1 : (w.alloc (.cells #[.int .i64 at_] 71)).heap[w.heap.size]? = some (.cells #[.int .i64 at_] 71) := alloc_new _ _
    have hs1 : w.heap.size < (w.alloc (.cells #[.int .i64 at_] 71)).heap.size := by simp
    have hBS : B < w.heap.size ∧ B + 1 < w.heap.size ∧ B + 2 < w.heap.size := ⟨hlt_of hT, hlt_of hE, hlt_of hA⟩
    have HB := Lib.hid (hb.mono (Nat.le_of_lt hBS.1))
    clear hT hE hA hu hb
    change Code.wp _ _ _ { tmps := #[.pointer (some ⟨B, 0, none⟩), .pointer (some ⟨B + 1, 0, none⟩), .pointer (some ⟨B + 2, 0, none⟩), (.iface 71 (.agg #[.int .i64 at_])), undef, undef, (.iface 71 (.agg #[.int .i64 at_])), (.iface 71 (.agg #[.int .i64 at_])), .bool true, undef, undef, undef, undef, undef, undef, undef, undef], defers := [] } w
    go_upto_region 3 with fail
    obtain ⟨W, hW⟩ : ∃ W, W = w.alloc (.cells #[.int .i64 at_] 71) := ⟨_, rfl⟩
    rw [← hW] at hT1 hE1 hA1 hF1 hs1 HB
    rw [← hW]
    clear hW
    have x0 : W.cell? ⟨B, 0, none⟩ = some v0 := by rw [Lib.cell_of_heap hT1]; rfl
    have x1 : W.cell? ⟨B, 1, none⟩ = some v1 := by rw [Lib.cell_of_heap hT1]; rfl
    have x2 : W.cell? ⟨B, 2, none⟩ = some v2 := by rw [Lib.cell_of_heap hT1]; rfl
    have x3 : W.cell? ⟨B, 3, none⟩ = some v3 := by rw [Lib.cell_of_heap hT1]; rfl
    have x4 : W.cell? ⟨B, 4, none⟩ = some v4 := by rw [Lib.cell_of_heap hT1]; rfl
    have x5 : W.cell? ⟨B + 1, 0, none⟩ = some x := by rw [Lib.cell_of_heap hE1]; rfl
    have x6 : W.cell? ⟨B + 2, 0, none⟩ = some y := by rw [Lib.cell_of_heap hA1]; rfl
    have x7 : W.cell? ⟨w.heap.size, 0, none⟩ = some (.int .i64 at_) := by rw [Lib.cell_of_heap hF1]; rfl
    have f0 : W.frozen? ⟨B, 0, none⟩ = false := Lib.frozen_of_heap hT1 0
    have f1 : W.frozen? ⟨B, 1, none⟩ = false := Lib.frozen_of_heap hT1 1
    have f2 : W.frozen? ⟨B, 2, none⟩ = false := Lib.frozen_of_heap hT1 2
    have f3 : W.frozen? ⟨B, 3, none⟩ = false := Lib.frozen_of_heap hT1 3
    have f4 : W.frozen? ⟨B, 4, none⟩ = false := Lib.frozen_of_heap hT1 4
    have f5 : W.frozen? ⟨B + 1, 0, none⟩ = false := Lib.frozen_of_heap hE1 0
    have f6 : W.frozen? ⟨B + 2, 0, none⟩ = false := Lib.frozen_of_heap hA1 0
    have HH := Lib.hid (And.intro hT1 (And.intro hE1 hA1))
    have hne : ¬ B = w.heap.size := by omega
    have hne1 : ¬ B + 1 = w.heap.size := by omega
    have hne2 : ¬ B + 2 = w.heap.size := by omega
    have hWs : w.heap.size < W.heap.size := hs1
    clear hT1 hE1 hA1 hF1
    go_region
    go_step
    refine ⟨rfl, rfl, ?_⟩
    have hc5 := cell5_grown W B 0 (.int .i64 0) (.int .i64 0) (.int .i64 0) (.int .i64 0) (.slice none 0 0)
    have k1 : (cell5 W B 0 (.int .i64 0) (.int .i64 0) (.int .i64 0) (.int .i64 0) (.slice none 0 0)).heap[B]? = some (.cells #[.int .i64 0, .int .i64 0, .int .i64 0, .int .i64 0, .slice none 0 0] 26 (0, 0)) := five_set HH.out.1
    have k2 := (hc5.block (B + 1) (by omega) (fun e => by have := Option.some.inj e; omega)).trans HH.out.2.1
    have k3 := (hc5.block (B + 2) (by omega) (fun e => by have := Option.some.inj e; omega)).trans HH.out.2.2
    have hb5 := below_grown (B := B) (Nat.le_refl _) hc5 (by omega)
    obtain ⟨W5, hW5⟩ : ∃ W5, W5 = cell5 W B 0 (.int .i64 0) (.int .i64 0) (.int .i64 0) (.int .i64 0) (.slice none 0 0) := ⟨_, rfl⟩
    rw [← hW5] at hc5 k1 k2 k3 hb5
    have hs5 := hc5.size
    show CatchG B at_ w ((W5' (cell5 W B 0 (.int .i64 0) (.int .i64 0) (.int .i64 0) (.int .i64 0) (.slice none 0 0)) B at_).drew)
    rw [← hW5]
    have m1 := g1 W5 (B + 1) 0 (.int .i64 2)
    have m2 := g1 (W5.setCell ⟨B + 1, 0, none⟩ (.int .i64 2)) (B + 2) 0 (.int .i64 at_)
    have hs6 : (W5.setCell ⟨B + 1, 0, none⟩ (.int .i64 2)).heap.size = W5.heap.size := by simp
    refine ⟨?_, ?_, ?_, ?_⟩
    · exact ((m2.block B (by omega) (fun e => by have := Option.some.inj e; omega)).trans (m1.block B (by omega) (fun e => by have := Option.some.inj e; omega))).trans k1
    · exact (m2.block (B + 1) (by omega) (fun e => by have := Option.some.inj e; omega)).trans (heap_setCell_same _ _ _ _ _ _ k2)
    · exact heap_setCell_same _ _ _ _ _ _ ((m1.block (B + 2) (by omega) (fun e => by have := Option.some.inj e; omega)).trans k3)
    · exact (((HB.out.trans hb5).trans (below_grown (by omega) m1 (by omega))).trans (below_grown (by omega) m2 (by omega))).drew
  · obtain ⟨rfl, hd, hC⟩ := h
    exact ⟨hd, _, rfl, .tuple #[], results_none rfl _ _ _, rfl, rfl, hC⟩
theorem catch_idle (B : Nat) (w : World) :
    CallsD Tryd.prog 42 #[.pointer (some ⟨B, 0, none⟩), .pointer (some ⟨B + 1, 0, none⟩), .pointer (some ⟨B + 2, 0, none⟩)] .returning w fun e u' w' => e = .returned (.tuple #[]) ∧ u' = .returning ∧ w' = w := by
  refine callsD_of_wpS Tryd.func42 rfl fun c₀ cs hu => ?_
  apply wpS_seq
  apply wpS_region
  simp [wpOpsS, go_sem, recoverD, hu, Tryd.ntmps42, Exit.thenS]
  apply wpS_seq
  apply wpS_region
  simp [wpOpsS, go_sem, Exit.thenS]
  refine wpS_cond (t := false) (by simp [Act.eval, Array.replicate]) ?_
  simp only [Bool.false_eq_true, if_false]
  refine wpS_of_wp (wp_skip ?_)
  cases c₀
  simp_all [bodyPostS, results, Tryd.results42]
end Go.Proofs.YtllkackipdcekaaDoor

namespace Go.Proofs.YtllkackipdcekaaDoor
open Go.RowKit Go.Maps Go.ChangeShapes

def readT (l : List UInt8) (names : Names) (i j : Int) : Except Nat Tm :=
  match termP (ofL l).2.1 i j ((ofL l).1.length + 1) 0 names.reverse (ofL l).1 with
  | .error a => .error a
  | .ok (t, r) => match endP (ofL l).2.1 (ofL l).2.2 r with
    | .error a => .error a
    | .ok _ => .ok t
def WholeG (w : World) (x : Except Nat Tm) (e : Ending) (w' : World) : Prop := Below w.heap.size w w' ∧ match x with
  | .error a => e = .returned (.tuple #[.agg #[.int .i64 0, .int .i64 0, .int .i64 0, .int .i64 0, .slice none 0 0], .int .i64 2, .int .i64 a])
  | .ok t => ∃ s, e = .returned (.tuple #[tv t s, .int .i64 0, .int .i64 0]) ∧ LiesP w' (Own w.heap.size w') t.kids s ∧ t.fine
abbrev zT : Obj := .cells #[.int .i64 0, .int .i64 0, .int .i64 0, .int .i64 0, .slice none 0 0] 26
abbrev zE : Obj := .cells #[.int .i64 0] 27
abbrev zA : Obj := .cells #[.int .i64 0] 3
theorem three_new (w : World) : ((((w.alloc zT).alloc zE).alloc zA).heap.size = w.heap.size + 3) ∧ (((w.alloc zT).alloc zE).alloc zA).heap[w.heap.size]? = some zT ∧ (((w.alloc zT).alloc zE).alloc zA).heap[w.heap.size + 1]? = some zE ∧ (((w.alloc zT).alloc zE).alloc zA).heap[w.heap.size + 2]? = some zA ∧ Below w.heap.size w (((w.alloc zT).alloc zE).alloc zA) := by
  have b1 := al w zT
  have b2 := al (w.alloc zT) zE
  have b3 := al ((w.alloc zT).alloc zE) zA
  have s1 : (w.alloc zT).heap.size = w.heap.size + 1 := by simp
  have s2 : ((w.alloc zT).alloc zE).heap.size = w.heap.size + 2 := by simp
  have e1 : (w.alloc zT).heap[w.heap.size]? = some zT := alloc_new _ _
  have e2 : ((w.alloc zT).alloc zE).heap[w.heap.size + 1]? = some zE := by have := alloc_new (w.alloc zT) zE; rw [s1] at this; exact this
  have e3 : (((w.alloc zT).alloc zE).alloc zA).heap[w.heap.size + 2]? = some zA := by have := alloc_new ((w.alloc zT).alloc zE) zA; rw [s2] at this; exact this
  exact ⟨by simp, (b3.block _ (by omega)).trans ((b2.block _ (by omega)).trans e1), (b3.block _ (by omega)).trans e2, e3, (b1.trans (b2.mono (by omega))).trans (b3.mono (by omega))⟩
theorem make_inner (w : World) : (Instr.makeMap 66 none).run Tryd.prog w = .ok (.map (some w.heap.size)) (w.alloc (.map #[] 0)) := by kernel_rfl
theorem rd_start {l : List UInt8} {w w1 : World} {S : Nat} {i j : Int} {names : Names} {a : Option Addr} {cap : Nat} {v : Value} (hS : w1.heap.size = S + 1) (hB : w.heap.size + 3 ≤ S) (h1 : SAt w1 S v (ofL l).2.1 (ofL l).2.2) (h2 : TLies w1 (ofL l).1 v) (ho : TxLies (w.heap.size + 3) w1 names (.slice a names.length cap)) (hl : l.length ≤ 10000000) (hm : names.length ≤ 10000000) (hsh : ∀ y ∈ names, y.length ≤ 10000000) :
    RSt (RC.mk (w.heap.size + 3) S (w1.heap.size + 1) w1.heap.size (ofL l).2.1 (ofL l).2.2 i j names (.slice a names.length cap) (100 * (ofL l).1.length)) 0 names.reverse (ofL l).1 ((w1.alloc (.map #[] 0)).alloc (.cells #[.pointer (some ⟨S, 0, none⟩), .int .i64 i, .int .i64 j, .slice a names.length cap, .map (some w1.heap.size), .int .i64 names.length, .map none, .int .i64 0] 69)) ∧ Below w1.heap.size w1 ((w1.alloc (.map #[] 0)).alloc (.cells #[.pointer (some ⟨S, 0, none⟩), .int .i64 i, .int .i64 j, .slice a names.length cap, .map (some w1.heap.size), .int .i64 names.length, .map none, .int .i64 0] 69)) := by
  have hbd := ofL_bound l
  have b1 := al w1 (.map #[] 0)
  have b2 := al (w1.alloc (.map #[] 0)) (.cells #[.pointer (some ⟨S, 0, none⟩), .int .i64 i, .int .i64 j, .slice a names.length cap, .map (some w1.heap.size), .int .i64 names.length, .map none, .int .i64 0] 69)
  have s1 : (w1.alloc (.map #[] 0)).heap.size = w1.heap.size + 1 := by simp
  have bb := b1.trans (b2.mono (by omega))
  have g0 := World.ownsGroups_made (H := Unit) w1 Tryd.prog 9 3 .i64
  have hbs := bb.size
  have q1 := alloc_new (w1.alloc (.map #[] 0)) (.cells #[.pointer (some ⟨S, 0, none⟩), .int .i64 i, .int .i64 j, .slice a names.length cap, .map (some w1.heap.size), .int .i64 names.length, .map none, .int .i64 0] 69)
  rw [s1] at q1
  have q2 := groups_same g0 (b2.block _ (by omega)) (fun g cs fz e => by rw [b2.block _ (hlt_of e)]; exact e)
  have q3 := (bb.block S (by omega)).trans h1
  have q4 : TLies ((w1.alloc (.map #[] 0)).alloc (.cells #[.pointer (some ⟨S, 0, none⟩), .int .i64 i, .int .i64 j, .slice a names.length cap, .map (some w1.heap.size), .int .i64 names.length, .map none, .int .i64 0] 69)) (ofL l).1 v := h2.keep fun g cs fz e => by rw [bb.block _ (hlt_of e)]; exact e
  have q5 := ho.keep (bb.mono (by omega))
  have q6 : ∀ t ∈ (ofL l).1, t.s.length ≤ 10000000 := fun t ht => by have := (hbd.2.2 t ht).1; omega
  have q7 : (ofL l).1.length ≤ 10000000 := by omega
  have q8 : names.reverse.length = names.length := List.length_reverse
  obtain ⟨W, hW⟩ : ∃ W, W = (w1.alloc (.map #[] 0)).alloc (.cells #[.pointer (some ⟨S, 0, none⟩), .int .i64 i, .int .i64 j, .slice a names.length cap, .map (some w1.heap.size), .int .i64 names.length, .map none, .int .i64 0] 69) := ⟨_, rfl⟩
  rw [← hW] at hbs bb q1 q2 q3 q4 q5
  rw [← hW]
  clear hW b2 hbd
  obtain ⟨ts, hts⟩ : ∃ ts, (ofL l).1 = ts := ⟨_, rfl⟩
  rw [hts] at q4 q6 q7
  rw [hts]
  refine ⟨?_, bb⟩
  refine { bS := hB, bR := ?_, bM := ?_, lo := ?_, kk := ?_, str := ⟨v, q3, q4⟩, tok := q6, rdr := ?_, outs := q5, many := ?_, short := hsh }
  · dsimp only; omega
  · dsimp only; omega
  · dsimp only; omega
  · dsimp only; omega
  · refine ⟨0, 0, .map none, .map [], [], ?_, ?_, Or.inl rfl, q2, rfl, ⟨⟨[], rfl⟩, fun x => Or.inl ⟨rfl, rfl⟩⟩⟩
    · unfold RAt
      rw [q8]
      exact q1
    · dsimp only; omega
  · show names.reverse.length + 100 * ts.length + 0 ≤ 100000000000
    omega
theorem liesP_setR {w : World} {B g i : Nat} {l : List Tm} {s v : Value} (h : LiesP w (Own B w) l s) (hB : g < B) : LiesP (w.setCell ⟨g, i, none⟩ v) (Own B (w.setCell ⟨g, i, none⟩ v)) l s := by
  have k := g1 w g i v
  revert k
  generalize w.setCell ⟨g, i, none⟩ v = w'
  intro k
  exact liesP_grown h k hB
def finV (w : World) (n : Nat) (v0 v1 v2 v3 v4 : Value) : World := ((cell5 w n 0 v0 v1 v2 v3 v4).setCell ⟨n + 1, 0, none⟩ (.int .i64 0)).setCell ⟨n + 2, 0, none⟩ (.int .i64 0)
set_option maxHeartbeats 4000000 in
theorem whole_fin {w2 : World} {n B' : Nat} {v0 v1 v2 v3 v4 z0 z1 z2 z3 z4 x y s : Value} {l : List Tm} (hz : w2.heap[n]? = some (.cells #[z0, z1, z2, z3, z4] 26 (0, 0))) (h1 : w2.heap[n + 1]? = some (.cells #[x] 27 (0, 0))) (h2 : w2.heap[n + 2]? = some (.cells #[y] 3 (0, 0))) (hl : LiesP w2 (Own B' w2) l s) (hB : n + 2 < B') :
    (finV (cell5 w2 n 0 v0 v1 v2 v3 v4) n v0 v1 v2 v3 v4).heap[n]? = some (.cells #[v0, v1, v2, v3, v4] 26 (0, 0)) ∧ (finV (cell5 w2 n 0 v0 v1 v2 v3 v4) n v0 v1 v2 v3 v4).heap[n + 1]? = some (.cells #[.int .i64 0] 27 (0, 0)) ∧ (finV (cell5 w2 n 0 v0 v1 v2 v3 v4) n v0 v1 v2 v3 v4).heap[n + 2]? = some (.cells #[.int .i64 0] 3 (0, 0)) ∧ LiesP (finV (cell5 w2 n 0 v0 v1 v2 v3 v4) n v0 v1 v2 v3 v4) (Own B' (finV (cell5 w2 n 0 v0 v1 v2 v3 v4) n v0 v1 v2 v3 v4)) l s ∧ Below n w2 (finV (cell5 w2 n 0 v0 v1 v2 v3 v4) n v0 v1 v2 v3 v4) := by
  have hn := hlt_of h2
  have c1 := cell5_grown w2 n 0 v0 v1 v2 v3 v4
  have c2 := cell5_grown (cell5 w2 n 0 v0 v1 v2 v3 v4) n 0 v0 v1 v2 v3 v4
  have k1 : (cell5 w2 n 0 v0 v1 v2 v3 v4).heap[n]? = some (.cells #[v0, v1, v2, v3, v4] 26 (0, 0)) := five_set hz
  have k2 : (cell5 (cell5 w2 n 0 v0 v1 v2 v3 v4) n 0 v0 v1 v2 v3 v4).heap[n]? = some (.cells #[v0, v1, v2, v3, v4] 26 (0, 0)) := five_set k1
  have l2 := liesP_grown (liesP_grown hl c1 (by omega)) c2 (by omega)
  have cc := c1.trans c2
  have e1 := (cc.block (n + 1) (by omega) (fun e => by have := Option.some.inj e; omega)).trans h1
  have e2 := (cc.block (n + 2) (by omega) (fun e => by have := Option.some.inj e; omega)).trans h2
  have hb := below_grown (B := n) (Nat.le_refl _) cc (by omega)
  have hs := cc.size
  obtain ⟨W, hW⟩ : ∃ W, W = cell5 (cell5 w2 n 0 v0 v1 v2 v3 v4) n 0 v0 v1 v2 v3 v4 := ⟨_, rfl⟩
  rw [← hW] at k2 l2 e1 e2 hb hs
  unfold finV
  rw [← hW]
  have m1 := g1 W (n + 1) 0 (.int .i64 0)
  have m2 := g1 (W.setCell ⟨n + 1, 0, none⟩ (.int .i64 0)) (n + 2) 0 (.int .i64 0)
  have hs6 : (W.setCell ⟨n + 1, 0, none⟩ (.int .i64 0)).heap.size = W.heap.size := by simp
  refine ⟨?_, ?_, ?_, liesP_setR (liesP_setR l2 (by omega)) hB, ?_⟩
  · exact ((m2.block n (by omega) (fun e => by have := Option.some.inj e; omega)).trans (m1.block n (by omega) (fun e => by have := Option.some.inj e; omega))).trans k2
  · exact (m2.block (n + 1) (by omega) (fun e => by have := Option.some.inj e; omega)).trans (heap_setCell_same _ _ _ _ _ _ e1)
  · exact heap_setCell_same _ _ _ _ _ _ ((m1.block (n + 2) (by omega) (fun e => by have := Option.some.inj e; omega)).trans e2)
  · exact (hb.trans (below_grown (by omega) m1 (by omega))).trans (below_grown (by omega) m2 (by omega))
set_option maxRecDepth 20000 in
theorem read_results (tmps : Array Value) (w : World) (n : Nat) (v0 v1 v2 v3 v4 u1 u2 : Value) (h8 : tmps.getD 8 undef = .pointer (some ⟨n, 0, none⟩)) (h9 : tmps.getD 9 undef = .pointer (some ⟨n + 1, 0, none⟩)) (h10 : tmps.getD 10 undef = .pointer (some ⟨n + 2, 0, none⟩)) (k0 : w.heap[n]? = some (.cells #[v0, v1, v2, v3, v4] 26 (0, 0))) (k1 : w.heap[n + 1]? = some (.cells #[u1] 27 (0, 0))) (k2 : w.heap[n + 2]? = some (.cells #[u2] 3 (0, 0))) :
    (results Tryd.f26 tmps).run Tryd.prog w = .ok (.tuple #[.agg #[v0, v1, v2, v3, v4], u1, u2]) w := by
  have h8' : tmps[8]?.getD undef = .pointer (some ⟨n, 0, none⟩) := by simpa using h8
  have h9' : tmps[9]?.getD undef = .pointer (some ⟨n + 1, 0, none⟩) := by simpa using h9
  have h10' : tmps[10]?.getD undef = .pointer (some ⟨n + 2, 0, none⟩) := by simpa using h10
  have y0 : w.cell? ⟨n, 0, none⟩ = some v0 := by rw [Lib.cell_of_heap k0]; rfl
  have y1 : w.cell? ⟨n, 1, none⟩ = some v1 := by rw [Lib.cell_of_heap k0]; rfl
  have y2 : w.cell? ⟨n, 2, none⟩ = some v2 := by rw [Lib.cell_of_heap k0]; rfl
  have y3 : w.cell? ⟨n, 3, none⟩ = some v3 := by rw [Lib.cell_of_heap k0]; rfl
  have y4 : w.cell? ⟨n, 4, none⟩ = some v4 := by rw [Lib.cell_of_heap k0]; rfl
  have x1 : w.cell? ⟨n + 1, 0, none⟩ = some u1 := by rw [Lib.cell_of_heap k1]; rfl
  have x2 : w.cell? ⟨n + 2, 0, none⟩ = some u2 := by rw [Lib.cell_of_heap k2]; rfl
  simp [results, Tryd.results26, h8', h9', h10', asAddr, y0, y1, y2, y3, y4, x1, x2, go_sem]
end Go.Proofs.YtllkackipdcekaaDoor

namespace Go.Proofs.YtllkackipdcekaaDoor
open Go.RowKit Go.Maps Go.ChangeShapes

set_option maxHeartbeats 1600000 in
set_option maxRecDepth 20000 in
theorem whole_any (s : ByteArray) (names : Names) (a : Option Addr) (cap : Nat) (i j : Int) (hij : (0 ≤ i ∧ i ≤ 1000) ∧ 0 ≤ j ∧ j ≤ 1000) (w : World) (hs : s.size ≤ 10000000) (hT : TabsR w.heap.size w) (hN : TxLies w.heap.size w names (.slice a names.length cap)) (hm : names.length ≤ 10000000) (hsh : ∀ y ∈ names, y.length ≤ 10000000) :
    Calls Tryd.prog 26 #[.string s, .slice a names.length cap, .int .i64 i, .int .i64 j] w (WholeG w (readT s.data.toList names i j)) := by
  have hmf : ∀ (fn : Fn) (first cap : Array Value) (w : World), (Instr.makeFunc fn first cap).run Tryd.prog w = .ok (.func fn first cap) w := fun _ _ _ _ => rfl
  have hmk := make_inner
  have HN := Lib.hid hN
  have HT := Lib.hid hT
  have HSH := Lib.hid hsh
  have HIJ := Lib.hid hij
  have H3 := Lib.hid (three_new w)
  have hsl : s.data.toList.length = s.size := by simp
  have HSL := Lib.hid hsl
  clear hN hT hsh hij hsl
  go_enter_defers Tryd.func26, Tryd.ntmps26
  go_upto_region 1 with fail
  obtain ⟨w3, hw3⟩ : ∃ w3, w3 = ((w.alloc zT).alloc zE).alloc zA := ⟨_, rfl⟩
  rw [← hw3]
  have HC := Lib.hid H3.out
  rw [← hw3] at HC
  have h3s : w.heap.size + 3 = w3.heap.size := HC.out.1.symm
  clear hw3 H3
  go_wp2_with fail
  refine (of_any s w3 hs).mono ?_
  intro e w1 hg
  obtain ⟨v, rfl, hlt, hSA, hTL, hB1⟩ := hg
  obtain ⟨S, hS⟩ : ∃ S, w1.heap.size - 1 = S := ⟨_, rfl⟩
  rw [hS] at hSA
  rw [hS]
  have hS1 : w1.heap.size = S + 1 := by omega
  have hSB : w.heap.size + 3 ≤ S := by omega
  have hN1 := (HN.out.keep HC.out.2.2.2.2).keep (hB1.mono (by omega))
  have hN3 : TxLies (w.heap.size + 3) w1 names (.slice a names.length cap) := by
    obtain ⟨a', c', e1, e2, e3, e4⟩ := hN1
    exact ⟨a', c', e1, e2, e3, fun q hq => by obtain ⟨g, o, h1, h2, h3⟩ := e4 q hq; exact ⟨g, o, h1, by omega, h3⟩⟩
  have hst := rd_start (l := s.data.toList) (i := i) (j := j) hS1 hSB hSA hTL hN3 (by rw [HSL.out]; exact hs) hm HSH.out
  have HR := Lib.hid hst.1
  have HB := Lib.hid ((HC.out.2.2.2.2.trans (hB1.mono (by omega))).trans (hst.2.mono (by omega)))
  have HB3 := Lib.hid (hB1.trans (hst.2.mono (by omega)))
  have hw1 : w.heap.size + 4 ≤ w1.heap.size := by omega
  have HS := Lib.hid hS1
  have HBD := Lib.hid (ofL_bound s.data.toList)
  clear hSA hTL hB1 hN1 hN3 hst hS hS1 hlt
  go_upto_region 2 with fail
  obtain ⟨W, hW⟩ : ∃ W, W = (w1.alloc (.map #[] 0)).alloc (.cells #[.pointer (some ⟨S, 0, none⟩), .int .i64 i, .int .i64 j, .slice a names.length cap, .map (some w1.heap.size), .int .i64 names.length, .map none, .int .i64 0] 69) := ⟨_, rfl⟩
  rw [← hW]
  rw [← hW] at HR HB HB3
  have hWs : W.heap.size = w1.heap.size + 2 := by rw [hW]; simp
  have HWS := Lib.hid hWs
  have HT1 := Lib.hid (show TabsR (w.heap.size + 3) W from ⟨by have := HT.out.lo; omega, (HT.out.keep HB.out).heads, (HT.out.keep HB.out).syms⟩)
  have HTM := Lib.hid (rterm_any (RC.mk (w.heap.size + 3) S (w1.heap.size + 1) w1.heap.size (ofL s.data.toList).2.1 (ofL s.data.toList).2.2 i j names (.slice a names.length cap) (100 * (ofL s.data.toList).1.length)) HIJ.out ((ofL s.data.toList).1.length + 1) 0 names.reverse (ofL s.data.toList).1 0 W (by omega) HR.out HT1.out)
  have z0 := (HB3.out.block w.heap.size (by omega)).trans HC.out.2.1
  have z1 := (HB3.out.block (w.heap.size + 1) (by omega)).trans HC.out.2.2.1
  have z2 := (HB3.out.block (w.heap.size + 2) (by omega)).trans HC.out.2.2.2.1
  have HZ := Lib.hid (And.intro z0 (And.intro z1 z2))
  clear hW z0 z1 z2 hWs
  go_wp2_with fail
  refine HTM.out.mono ?_
  intro e w2 hg
  cases hx : termP (ofL s.data.toList).2.1 i j ((ofL s.data.toList).1.length + 1) 0 names.reverse (ofL s.data.toList).1 with
  | error at_ =>
    rw [show termP (RC.E (RC.mk (w.heap.size + 3) S (w1.heap.size + 1) w1.heap.size (ofL s.data.toList).2.1 (ofL s.data.toList).2.2 i j names (.slice a names.length cap) (100 * (ofL s.data.toList).1.length))) (RC.i (RC.mk (w.heap.size + 3) S (w1.heap.size + 1) w1.heap.size (ofL s.data.toList).2.1 (ofL s.data.toList).2.2 i j names (.slice a names.length cap) (100 * (ofL s.data.toList).1.length))) (RC.j (RC.mk (w.heap.size + 3) S (w1.heap.size + 1) w1.heap.size (ofL s.data.toList).2.1 (ofL s.data.toList).2.2 i j names (.slice a names.length cap) (100 * (ofL s.data.toList).1.length))) ((ofL s.data.toList).1.length + 1) 0 names.reverse (ofL s.data.toList).1 = .error at_ from hx] at hg
    obtain ⟨rfl, hf⟩ := hg
    have HX := Lib.hid (show readT s.data.toList names i j = .error at_ by unfold readT; rw [hx])
    have hfb : Below (w.heap.size + 3) W w2 := hf.below
    have HZ2 := Lib.hid (And.intro ((hfb.block _ (by omega)).trans HZ.out.1) (And.intro ((hfb.block _ (by omega)).trans HZ.out.2.1) ((hfb.block _ (by omega)).trans HZ.out.2.2)))
    have HB2 := Lib.hid (HB.out.trans (hfb.mono (by omega)))
    clear hx hf hfb
    unfold faultP
    go_wp2
    refine leaves_cons (f := 42) (args := #[.pointer (some ⟨w.heap.size, 0, none⟩), .pointer (some ⟨w.heap.size + 1, 0, none⟩), .pointer (some ⟨w.heap.size + 2, 0, none⟩)]) (by simp) (by simp [go_sem]) ?_
    refine (catch_panicking w.heap.size at_ w2 HZ2.out.1 HZ2.out.2.1 HZ2.out.2.2).mono ?_
    rintro e u' w'' ⟨rfl, rfl, hC⟩
    show ∃ v, (results _ _).run _ _ = .ok v _ ∧ _
    refine ⟨_, read_results _ w'' w.heap.size _ _ _ _ _ _ _ rfl rfl rfl hC.1 hC.2.1 hC.2.2.1, ?_⟩
    rw [HX.out]
    exact ⟨HB2.out.trans hC.2.2.2, rfl⟩
  | ok m =>
    obtain ⟨t, r⟩ := m
    rw [show termP (RC.E (RC.mk (w.heap.size + 3) S (w1.heap.size + 1) w1.heap.size (ofL s.data.toList).2.1 (ofL s.data.toList).2.2 i j names (.slice a names.length cap) (100 * (ofL s.data.toList).1.length))) (RC.i (RC.mk (w.heap.size + 3) S (w1.heap.size + 1) w1.heap.size (ofL s.data.toList).2.1 (ofL s.data.toList).2.2 i j names (.slice a names.length cap) (100 * (ofL s.data.toList).1.length))) (RC.j (RC.mk (w.heap.size + 3) S (w1.heap.size + 1) w1.heap.size (ofL s.data.toList).2.1 (ofL s.data.toList).2.2 i j names (.slice a names.length cap) (100 * (ofL s.data.toList).1.length))) ((ofL s.data.toList).1.length + 1) 0 names.reverse (ofL s.data.toList).1 = .ok (t, r) from hx] at hg
    obtain ⟨sv, rfl, hl, hfi, hs2, hf⟩ := hg
    obtain ⟨au, cu, rfl, -, -⟩ := hl.out
    have hfb : Below (w.heap.size + 3) W w2 := hf.below
    have HZ2 := Lib.hid (And.intro ((hfb.block _ (by omega)).trans HZ.out.1) (And.intro ((hfb.block _ (by omega)).trans HZ.out.2.1) ((hfb.block _ (by omega)).trans HZ.out.2.2)))
    have HB2 := Lib.hid (HB.out.trans (hfb.mono (by omega)))
    have rr : w2.cell? ⟨w1.heap.size + 1, 0, none⟩ = some (.pointer (some ⟨S, 0, none⟩)) := hs2.cells.1
    have rlt : w1.heap.size + 1 < w2.heap.size := hs2.cells.2.2.2.2
    obtain ⟨tv2, hSA2, hTL2⟩ := hs2.str
    have c5 := cell5_grown w2 w.heap.size 0 (.int .i64 t.k) (.int .i64 t.i) (.int .i64 t.j) (.int .i64 t.n) (.slice au t.kids.length cu)
    have k0 : (cell5 w2 w.heap.size 0 (.int .i64 t.k) (.int .i64 t.i) (.int .i64 t.j) (.int .i64 t.n) (.slice au t.kids.length cu)).heap[w.heap.size]? = some (.cells #[.int .i64 t.k, .int .i64 t.i, .int .i64 t.j, .int .i64 t.n, .slice au t.kids.length cu] 26 (0, 0)) := five_set HZ2.out.1
    have k1 := (c5.block (w.heap.size + 1) (by omega) (fun e => by have := Option.some.inj e; omega)).trans HZ2.out.2.1
    have k2 := (c5.block (w.heap.size + 2) (by omega) (fun e => by have := Option.some.inj e; omega)).trans HZ2.out.2.2
    have hSA3 : SAt (cell5 w2 w.heap.size 0 (.int .i64 t.k) (.int .i64 t.i) (.int .i64 t.j) (.int .i64 t.n) (.slice au t.kids.length cu)) S tv2 (ofL s.data.toList).2.1 (ofL s.data.toList).2.2 := (c5.block S (hlt_of hSA2) (fun e => by have := Option.some.inj e; omega)).trans hSA2
    have hTL3 : TLies (cell5 w2 w.heap.size 0 (.int .i64 t.k) (.int .i64 t.i) (.int .i64 t.j) (.int .i64 t.n) (.slice au t.kids.length cu)) r tv2 := hTL2.keep fun g cs fz e => by
      rw [c5.block g (hlt_of e) (fun e2 => by
        have e3 := Option.some.inj e2
        rw [e3] at e
        exact (by decide : (97 : TypeId) ≠ 26) (type_one e HZ2.out.1))]
      exact e
    have HEND := Lib.hid (end_any S tv2 (ofL s.data.toList).2.1 (ofL s.data.toList).2.2 r _ hSA3 hTL3)
    have HKK := Lib.hid (And.intro k0 (And.intro k1 k2))
    have HB5 := Lib.hid (HB2.out.trans (below_grown (Nat.le_refl _) c5 (by omega)))
    have HFIN := Lib.hid (whole_fin (B' := W.heap.size) (v0 := .int .i64 t.k) (v1 := .int .i64 t.i) (v2 := .int .i64 t.j) (v3 := .int .i64 t.n) (v4 := .slice au t.kids.length cu) HZ2.out.1 HZ2.out.2.1 HZ2.out.2.2 hl (by have := HWS.out; omega))
    have HFI := Lib.hid hfi
    have HX1 := Lib.hid hx
    obtain ⟨⟨q0, q1, q2, q3, q4⟩, ⟨g0, g1x, g2, g3, g4⟩, hGl⟩ := cells5_of HZ2.out.1
    have p1 : w2.cell? ⟨w.heap.size + 1, 0, none⟩ = some (.int .i64 0) := by rw [Lib.cell_of_heap HZ2.out.2.1]; rfl
    have p2 : w2.cell? ⟨w.heap.size + 2, 0, none⟩ = some (.int .i64 0) := by rw [Lib.cell_of_heap HZ2.out.2.2]; rfl
    have p3 : w2.frozen? ⟨w.heap.size + 1, 0, none⟩ = false := Lib.frozen_of_heap HZ2.out.2.1 0
    have p4 : w2.frozen? ⟨w.heap.size + 2, 0, none⟩ = false := Lib.frozen_of_heap HZ2.out.2.2 0
    have hne : ¬ w1.heap.size + 1 = w.heap.size := by omega
    clear hl hfi hs2 hf hfb hSA2 hTL2 c5 k0 k1 k2 hSA3 hTL3 hx
    unfold tv
    go_wp2_with fail
    refine HEND.out.mono ?_
    intro e w4 hg
    obtain ⟨hww, hg⟩ := hg
    rw [hww] at HKK HB5 HFIN
    clear hww HEND q0 q1 q2 q3 q4 g0 g1x g2 g3 g4 hGl p1 p2 p3 p4 rr
    obtain ⟨⟨q0, q1, q2, q3, q4⟩, ⟨g0, g1x, g2, g3, g4⟩, hGl⟩ := cells5_of HKK.out.1
    have p1 : w4.cell? ⟨w.heap.size + 1, 0, none⟩ = some (.int .i64 0) := by rw [Lib.cell_of_heap HKK.out.2.1]; rfl
    have p2 : w4.cell? ⟨w.heap.size + 2, 0, none⟩ = some (.int .i64 0) := by rw [Lib.cell_of_heap HKK.out.2.2]; rfl
    have p3 : w4.frozen? ⟨w.heap.size + 1, 0, none⟩ = false := Lib.frozen_of_heap HKK.out.2.1 0
    have p4 : w4.frozen? ⟨w.heap.size + 2, 0, none⟩ = false := Lib.frozen_of_heap HKK.out.2.2 0
    cases hy : endP (ofL s.data.toList).2.1 (ofL s.data.toList).2.2 r with
    | error at_ =>
      rw [hy] at hg
      obtain rfl := hg
      have HX := Lib.hid (show readT s.data.toList names i j = .error at_ by unfold readT; rw [HX1.out]; simp only; rw [hy])
      clear hy
      unfold faultP
      go_wp2
      refine leaves_cons (f := 42) (args := #[.pointer (some ⟨w.heap.size, 0, none⟩), .pointer (some ⟨w.heap.size + 1, 0, none⟩), .pointer (some ⟨w.heap.size + 2, 0, none⟩)]) (by simp) (by simp [go_sem]) ?_
      refine (catch_panicking w.heap.size at_ w4 HKK.out.1 HKK.out.2.1 HKK.out.2.2).mono ?_
      rintro e u' w'' ⟨rfl, rfl, hC⟩
      show ∃ v, (results _ _).run _ _ = .ok v _ ∧ _
      refine ⟨_, read_results _ w'' w.heap.size _ _ _ _ _ _ _ rfl rfl rfl hC.1 hC.2.1 hC.2.2.1, ?_⟩
      rw [HX.out]
      exact ⟨HB5.out.trans hC.2.2.2, rfl⟩
    | ok u =>
      rw [hy] at hg
      obtain rfl := hg
      have HX := Lib.hid (show readT s.data.toList names i j = .ok t by unfold readT; rw [HX1.out]; simp only; rw [hy])
      clear hy
      go_wp2
      refine leaves_cons (f := 42) (args := #[.pointer (some ⟨w.heap.size, 0, none⟩), .pointer (some ⟨w.heap.size + 1, 0, none⟩), .pointer (some ⟨w.heap.size + 2, 0, none⟩)]) (by simp) (by simp [go_sem]) ?_
      refine (catch_idle w.heap.size _).mono ?_
      rintro e u' w'' ⟨rfl, rfl, rfl⟩
      show ∃ v, (results _ _).run _ _ = .ok v _ ∧ _
      refine ⟨_, read_results _ (finV w4 w.heap.size (.int .i64 t.k) (.int .i64 t.i) (.int .i64 t.j) (.int .i64 t.n) (.slice au t.kids.length cu)) w.heap.size _ _ _ _ _ _ _ rfl rfl rfl HFIN.out.1 HFIN.out.2.1 HFIN.out.2.2.1, ?_⟩
      rw [HX.out]
      exact ⟨HB2.out.trans HFIN.out.2.2.2.2, _, rfl, HFIN.out.2.2.2.1.from (by have := HWS.out; omega), HFI.out⟩
end Go.Proofs.YtllkackipdcekaaDoor

namespace Go.Proofs.YtllkackipdcekaaDoor
open Go.RowKit Go.Maps Go.ChangeShapes

theorem results_ct2 {P : Program} {fn : Func} {p q r : Tmp} {ty : TypeId} (h : fn.results = #[.cell p ty, .tmp q, .tmp r]) (tmps : Array Value) (w : World) (g : Nat) (t : TypeId) (cs : Array Value) (fr : Nat × Nat) (d : TypeDesc)
    (hp : tmps.getD p undef = .pointer (some ⟨g, 0, none⟩)) (hg : w.heap[g]? = some (.cells cs t fr))
    (hu : P.underlying ty = some d) (hd : (match d with | .struct _ | .array _ _ => true | _ => false) = true) (hi : (P.info? ty).map (·.size) = some cs.size) :
    (results fn tmps).run P w = .ok (.tuple #[.agg cs, tmps.getD q undef, tmps.getD r undef]) w := by
  have hp' : tmps[p]?.getD undef = .pointer (some ⟨g, 0, none⟩) := by simpa using hp
  simp [results, h, hp', asAddr, run_loadVar_row w g t ty cs fr d hg hu hd hi]
def readB (l : List UInt8) (names : Names) (i j : Int) : Except (Nat × Nat) Tm :=
  if i < 0 ∨ 1000 < i ∨ j < 0 ∨ 1000 < j then .error (1, 0) else
    match readT l names i j with
    | .error a => .error (2, a)
    | .ok t => .ok t
def ReadG (w : World) (x : Except (Nat × Nat) Tm) (e : Ending) (w' : World) : Prop := Below w.heap.size w w' ∧ match x with
  | .error (k, a) => e = .returned (.tuple #[.agg #[.int .i64 0, .int .i64 0, .int .i64 0, .int .i64 0, .slice none 0 0], .int .i64 k, .int .i64 a])
  | .ok t => ∃ s, e = .returned (.tuple #[tv t s, .int .i64 0, .int .i64 0]) ∧ LiesP w' (Own w.heap.size w') t.kids s ∧ t.fine
theorem TabsR.up {B B' : Nat} {w : World} (h : TabsR B w) (hB : B ≤ B') : TabsR B' w := ⟨by have := h.lo; omega, h.heads, h.syms⟩
theorem TxLies.up {B B' : Nat} {w : World} {l : Names} {v : Value} (h : TxLies B w l v) (hB : B ≤ B') : TxLies B' w l v := by
  obtain ⟨a, c, e1, e2, e3, e4⟩ := h
  exact ⟨a, c, e1, e2, e3, fun q hq => by obtain ⟨g, o, h1, h2, h3⟩ := e4 q hq; exact ⟨g, o, h1, by omega, h3⟩⟩
set_option maxHeartbeats 400000 in
set_option maxRecDepth 20000 in
theorem read_any (s : ByteArray) (names : Names) (nv : Value) (i j : Int) (w : World) (hs : s.size ≤ 10000000) (hT : TabsR w.heap.size w) (hN : TxLies w.heap.size w names nv) (hm : names.length ≤ 10000000) (hsh : ∀ y ∈ names, y.length ≤ 10000000) :
    Calls Tryd.prog 12 #[.string s, nv, .int .i64 i, .int .i64 j] w (ReadG w (readB s.data.toList names i j)) := by
  obtain ⟨du, hu1, hu2⟩ := under_term
  obtain ⟨a, cap, rfl, hN2⟩ := hN
  have hN : TxLies w.heap.size w names (.slice a names.length cap) := ⟨a, cap, rfl, hN2⟩
  have hba := al w zT
  have hsz : (w.alloc zT).heap.size = w.heap.size + 1 := by simp
  have HG := Lib.hid (show (w.alloc zT).heap[w.heap.size]? = some zT from alloc_new _ _)
  have HW := Lib.hid (fun (h : (0 ≤ i ∧ i ≤ 1000) ∧ 0 ≤ j ∧ j ≤ 1000) => whole_any s names a cap i j h (w.alloc zT) hs ((hT.keep hba).up (by omega)) ((hN.keep hba).up (by omega)) hm hsh)
  have HBA := Lib.hid hba
  have HSZ := Lib.hid hsz
  clear hN hN2 hT hba hsh hsz
  by_cases c1 : i < 0
  · skip
    have HX := Lib.hid (show readB s.data.toList names i j = .error (1, 0) from if_pos (by omega))
    go_enter Tryd.func12, Tryd.ntmps12
    go_wp2
    refine bodyPost_ret (results_ct2 rfl _ _ w.heap.size _ _ _ du rfl HG.out hu1 (by cases du <;> first | rfl | exact hu2) size_term) rfl ?_
    rw [HX.out]
    exact ⟨HBA.out, rfl⟩
  by_cases c2 : 1000 < i
  · skip
    have HX := Lib.hid (show readB s.data.toList names i j = .error (1, 0) from if_pos (by omega))
    go_enter Tryd.func12, Tryd.ntmps12
    go_wp2
    refine bodyPost_ret (results_ct2 rfl _ _ w.heap.size _ _ _ du rfl HG.out hu1 (by cases du <;> first | rfl | exact hu2) size_term) rfl ?_
    rw [HX.out]
    exact ⟨HBA.out, rfl⟩
  by_cases c3 : j < 0
  · skip
    have HX := Lib.hid (show readB s.data.toList names i j = .error (1, 0) from if_pos (by omega))
    go_enter Tryd.func12, Tryd.ntmps12
    go_wp2
    refine bodyPost_ret (results_ct2 rfl _ _ w.heap.size _ _ _ du rfl HG.out hu1 (by cases du <;> first | rfl | exact hu2) size_term) rfl ?_
    rw [HX.out]
    exact ⟨HBA.out, rfl⟩
  by_cases c4 : 1000 < j
  · skip
    have HX := Lib.hid (show readB s.data.toList names i j = .error (1, 0) from if_pos (by omega))
    go_enter Tryd.func12, Tryd.ntmps12
    go_wp2
    refine bodyPost_ret (results_ct2 rfl _ _ w.heap.size _ _ _ du rfl HG.out hu1 (by cases du <;> first | rfl | exact hu2) size_term) rfl ?_
    rw [HX.out]
    exact ⟨HBA.out, rfl⟩
  have HC := Lib.hid (HW.out (by omega))
  have HX := Lib.hid (show readB s.data.toList names i j = (match readT s.data.toList names i j with
    | .error a => .error (2, a)
    | .ok t => .ok t) from if_neg (by omega))
  clear HW
  go_enter Tryd.func12, Tryd.ntmps12
  go_wp2_with fail
  refine HC.out.mono ?_
  intro e w2 hg
  obtain ⟨hB, hg⟩ := hg
  have hz2 := (hB.block w.heap.size (by have := HSZ.out; omega)).trans HG.out
  obtain ⟨⟨q0, q1, q2, q3, q4⟩, ⟨g0, g1x, g2, g3, g4⟩, hGl⟩ := cells5_of hz2
  have HZ := Lib.hid hz2
  have HB := Lib.hid (HBA.out.trans (hB.mono (by have := HSZ.out; omega)))
  clear hz2 hB HBA
  cases hx : readT s.data.toList names i j with
  | error at_ =>
    rw [hx] at hg HX
    obtain rfl := hg
    clear hx
    go_wp2
    refine bodyPost_ret (results_ct2 rfl _ _ w.heap.size _ _ _ du rfl (five_set HZ.out) hu1 (by cases du <;> first | rfl | exact hu2) size_term) rfl ?_
    rw [HX.out]
    exact ⟨HB.out.trans (below_grown (Nat.le_refl _) (cell5_grown w2 w.heap.size 0 (.int .i64 0) (.int .i64 0) (.int .i64 0) (.int .i64 0) (.slice none 0 0)) (by omega)), rfl⟩
  | ok t =>
    rw [hx] at hg HX
    obtain ⟨sv, rfl, hl, hfi⟩ := hg
    obtain ⟨au, cu, rfl, -, -⟩ := hl.out
    have c5 := cell5_grown w2 w.heap.size 0 (.int .i64 t.k) (.int .i64 t.i) (.int .i64 t.j) (.int .i64 t.n) (.slice au t.kids.length cu)
    have HLL := Lib.hid ((liesP_grown hl c5 (by have := HSZ.out; omega)).from (B' := w.heap.size) (by have := HSZ.out; omega))
    have HBB := Lib.hid (HB.out.trans (below_grown (Nat.le_refl _) c5 (by omega)))
    have HFI := Lib.hid hfi
    clear hx hl c5 hfi
    unfold tv
    go_wp2
    refine bodyPost_ret (results_ct2 rfl _ _ w.heap.size _ _ _ du rfl (five_set HZ.out) hu1 (by cases du <;> first | rfl | exact hu2) size_term) rfl ?_
    rw [HX.out]
    exact ⟨HBB.out, _, rfl, HLL.out, HFI.out⟩
end Go.Proofs.YtllkackipdcekaaDoor

namespace Go.Proofs.YtllkackipdcekaaDoor

def Lk (a b : List Tok) : Prop := a.map (fun t => (t.k, t.s)) = b.map (fun t => (t.k, t.s))
theorem Lk.nil {b : List Tok} (h : Lk [] b) : b = [] := by unfold Lk at h; simpa using h.symm
theorem Lk.cons {t : Tok} {r b : List Tok} (h : Lk (t :: r) b) : ∃ t1 r1, b = t1 :: r1 ∧ t1.k = t.k ∧ t1.s = t.s ∧ Lk r r1 := by
  cases b with
  | nil => unfold Lk at h; simp at h
  | cons t1 r1 =>
    unfold Lk at h
    simp only [List.map_cons, List.cons.injEq, Prod.mk.injEq] at h
    exact ⟨t1, r1, rfl, h.1.1.symm, h.1.2.symm, h.2⟩
def Fol {α : Type} (p p' : List Tok → Except Nat (α × List Tok)) : Prop := ∀ ts v r ts1 x, p ts = .ok (v, r) → Lk ts ts1 → ∃ r1, p' (ts1 ++ x) = .ok (v, r1 ++ x) ∧ Lk r r1
theorem take_fol {E E' k : Nat} {ts r ts1 : List Tok} {t : Tok} (x : List Tok) (h : takeT E k ts = .ok (t, r)) (hl : Lk ts ts1) : ∃ t1 r1, takeT E' k (ts1 ++ x) = .ok (t1, r1 ++ x) ∧ t1.s = t.s ∧ Lk r r1 := by
  obtain ⟨rfl, hk⟩ := takeT_eq h
  obtain ⟨t1, r1, rfl, e1, e2, e3⟩ := hl.cons
  refine ⟨t1, r1, ?_, e2, e3⟩
  show takeT E' k (t1 :: (r1 ++ x)) = _
  unfold takeT
  dsimp only
  rw [if_pos (e1.trans hk)]
theorem numQ_fol {E E' : Nat} {lv lv' : List Tok → Except Nat (Int × List Tok)} (hlv : Fol lv lv') : Fol (numQ lv E) (numQ lv' E') := by
  intro ts v r ts1 x h hl
  unfold numQ at h
  split at h; · cases h
  rename_i w r2 h2
  obtain ⟨w1, q2, e2, s2, l2⟩ := take_fol (E' := E') x h2 hl
  unfold numQ
  rw [e2]
  dsimp only
  rw [s2]
  split at h
  · rename_i hs
    rw [if_pos hs]
    split at h; · cases h
    rename_i n r3 h3
    obtain ⟨q3, e3, l3⟩ := hlv _ _ _ _ x h3 l2
    rw [e3]
    dsimp only
    split at h; · cases h
    rename_i h4
    obtain ⟨w4, q4, e4, s4, l4⟩ := take_fol (E' := E') x h4 l3
    rw [e4]
    cases h
    exact ⟨q4, rfl, l4⟩
  · rename_i hs
    rw [if_neg hs]
    split at h
    · rename_i hs2
      rw [if_pos hs2]
      split at h; · cases h
      rename_i n r3 h3
      obtain ⟨q3, e3, l3⟩ := hlv _ _ _ _ x h3 l2
      rw [e3]
      dsimp only
      split at h; · cases h
      rename_i n2 r4 h4
      obtain ⟨q4, e4, l4⟩ := hlv _ _ _ _ x h4 l3
      rw [e4]
      dsimp only
      split at h; · cases h
      rename_i h5
      obtain ⟨w5, q5, e5, s5, l5⟩ := take_fol (E' := E') x h5 l4
      rw [e5]
      cases h
      exact ⟨q5, rfl, l5⟩
    · cases h
theorem numP_fol {E E' : Nat} {i j : Int} {lv lv' : List Tok → Except Nat (Int × List Tok)} (hlv : Fol lv lv') : Fol (numP lv E i j) (numP lv' E' i j) := by
  intro ts v r ts1 x h hl
  cases ts with
  | nil => cases h
  | cons t r0 =>
    obtain ⟨t1, r1, rfl, e1, e2, e3⟩ := hl.cons
    unfold numP at h
    show ∃ q, numP lv' E' i j (t1 :: (r1 ++ x)) = _ ∧ _
    unfold numP
    dsimp only at h ⊢
    rw [e1, e2]
    split at h
    · rename_i c1
      rw [if_pos c1]
      cases h
      exact ⟨r1, rfl, e3⟩
    · rename_i c1
      rw [if_neg c1]
      split at h
      · rename_i c2
        rw [if_pos c2]
        split at h
        · rename_i c3
          rw [if_pos c3]
          cases h
          exact ⟨r1, rfl, e3⟩
        · rename_i c3
          rw [if_neg c3]
          split at h
          · rename_i c4
            rw [if_pos c4]
            cases h
            exact ⟨r1, rfl, e3⟩
          · cases h
      · rename_i c2
        rw [if_neg c2]
        split at h
        · rename_i c3
          rw [if_pos c3]
          exact numQ_fol hlv _ _ _ _ x h e3
        · cases h
theorem levelP_fol {E E' : Nat} {i j : Int} : ∀ {f f' : Nat}, f ≤ f' → Fol (levelP E i j f) (levelP E' i j f')
  | 0, f', _ => fun ts v r ts1 x h hl => by cases h
  | f + 1, 0, hf => by omega
  | f + 1, f' + 1, hf => fun ts v r ts1 x h hl => by
    unfold levelP at h
    split at h; · cases h
    rename_i n q hn
    split at h; · cases h
    rename_i hle
    obtain ⟨q1, e1, l1⟩ := numP_fol (E' := E') (levelP_fol (E' := E') (i := i) (j := j) (show f ≤ f' by omega)) _ _ _ _ x hn hl
    unfold levelP
    rw [e1]
    dsimp only
    rw [if_neg hle]
    cases h
    exact ⟨q1, rfl, l1⟩
def FolT (tp tp' : Int → Names → List Tok → Except Nat (Tm × List Tok)) : Prop := ∀ s N, Fol (tp s N) (tp' s N)
theorem kidsP_fol {tp tp' : Int → Names → List Tok → Except Nat (Tm × List Tok)} (htp : FolT tp tp') {k own : Int} {y : List UInt8} : ∀ {c p : Nat} {N : Names}, Fol (kidsP tp k own y p c N) (kidsP tp' k own y p c N)
  | 0, p, N => fun ts v r ts1 x h hl => by unfold kidsP at h; cases h; exact ⟨ts1, rfl, hl⟩
  | c + 1, p, N => fun ts v r ts1 x h hl => by
    unfold kidsP at h
    split at h; · cases h
    rename_i t r1 h1
    obtain ⟨q1, e1, l1⟩ := htp _ _ _ _ _ _ x h1 hl
    split at h; · cases h
    rename_i l r2 h2
    obtain ⟨q2, e2, l2⟩ := kidsP_fol htp (c := c) _ _ _ _ x h2 l1
    unfold kidsP
    rw [e1]
    dsimp only
    rw [e2]
    cases h
    exact ⟨q2, rfl, l2⟩
theorem kidsK_fol {E E' : Nat} {tp tp' : Int → Names → List Tok → Except Nat (Tm × List Tok)} (htp : FolT tp tp') {k n own : Int} {N : Names} : Fol (kidsK tp E k n own N) (kidsK tp' E' k n own N) := by
  intro ts v r ts1 x h hl
  unfold kidsK at h ⊢
  split at h
  · rename_i c1
    rw [if_pos c1]
    cases h
    exact ⟨ts1, rfl, hl⟩
  · rename_i c1
    rw [if_neg c1]
    split at h
    · rename_i c2
      rw [if_pos c2]
      split at h; · cases h
      rename_i w q hw
      obtain ⟨w1, q1, e1, s1, l1⟩ := take_fol (E' := E') x hw hl
      rw [e1]
      dsimp only
      rw [s1]
      exact kidsP_fol htp _ _ _ _ x h l1
    · rename_i c2
      rw [if_neg c2]
      exact kidsP_fol htp _ _ _ _ x h hl
theorem kidsJ_fol {E E' : Nat} {tp tp' : Int → Names → List Tok → Except Nat (Tm × List Tok)} (htp : FolT tp tp') {N : Names} : Fol (kidsJ tp E N) (kidsJ tp' E' N) := by
  intro ts v r ts1 x h hl
  unfold kidsJ at h
  split at h; · cases h
  rename_i h1
  obtain ⟨q1, e1, l1⟩ := htp _ _ _ _ _ _ x h1 hl
  split at h; · cases h
  rename_i h2
  obtain ⟨q2, e2, l2⟩ := htp _ _ _ _ _ _ x h2 l1
  split at h; · cases h
  rename_i h3
  obtain ⟨w3, q3, e3, s3, l3⟩ := take_fol (E' := E') x h3 l2
  split at h; · cases h
  rename_i h4
  obtain ⟨w4, q4, e4, s4, l4⟩ := take_fol (E' := E') x h4 l3
  split at h; · cases h
  rename_i h5
  obtain ⟨q5, e5, l5⟩ := htp _ _ _ _ _ _ x h5 l4
  split at h; · cases h
  rename_i h6
  obtain ⟨q6, e6, l6⟩ := htp _ _ _ _ _ _ x h6 l5
  split at h; · cases h
  rename_i h7
  obtain ⟨q7, e7, l7⟩ := htp _ _ _ _ _ _ x h7 l6
  split at h; · cases h
  rename_i h8
  obtain ⟨q8, e8, l8⟩ := htp _ _ _ _ _ _ x h8 l7
  cases h
  unfold kidsJ
  rw [e1]; dsimp only; rw [e2]; dsimp only; rw [e3]; dsimp only; rw [e4]; dsimp only; rw [s3, s4, e5]; dsimp only; rw [e6]; dsimp only; rw [e7]; dsimp only; rw [e8]
  exact ⟨q8, rfl, l8⟩
theorem symP_fol {E E' : Nat} {k : Int} : Fol (symP E k) (symP E' k) := by
  intro ts v r ts1 x h hl
  unfold symP at h ⊢
  split at h
  · rename_i c1
    rw [if_pos c1]
    split at h; · cases h
    rename_i w q hw
    obtain ⟨w1, q1, e1, s1, l1⟩ := take_fol (E' := E') x hw hl
    rw [e1]
    dsimp only
    rw [s1]
    split at h; · cases h
    rename_i c2
    rw [if_neg c2]
    cases h
    exact ⟨q1, rfl, l1⟩
  · rename_i c1
    rw [if_neg c1]
    cases h
    exact ⟨ts1, rfl, hl⟩
theorem lv_fol {lv lv' : List Tok → Except Nat (Int × List Tok)} (hlv : Fol lv lv') (c : Prop) [Decidable c] : Fol (fun ts => if c then lv ts else .ok ((0 : Int), ts)) (fun ts => if c then lv' ts else .ok ((0 : Int), ts)) := by
  intro ts v r ts1 x h hl
  dsimp only at h ⊢
  split at h
  · rename_i c1
    rw [if_pos c1]
    exact hlv _ _ _ _ x h hl
  · rename_i c1
    rw [if_neg c1]
    cases h
    exact ⟨ts1, rfl, hl⟩
theorem bodyP_fol {E E' : Nat} {lv lv' : List Tok → Except Nat (Int × List Tok)} (hlv : Fol lv lv') {tp tp' : Int → Names → List Tok → Except Nat (Tm × List Tok)} (htp : FolT tp tp') {k : Int} {N : Names} : Fol (bodyP lv tp E k N) (bodyP lv' tp' E' k N) := by
  intro ts v r ts1 x h hl
  unfold bodyP at h
  split at h; · cases h
  rename_i n r1 h1
  obtain ⟨q1, e1, l1⟩ := symP_fol (E' := E') _ _ _ _ x h1 hl
  split at h; · cases h
  rename_i i r2 h2
  obtain ⟨q2, e2, l2⟩ := lv_fol hlv (0 < levelsN k) _ _ _ _ x h2 l1
  split at h; · cases h
  rename_i j r3 h3
  obtain ⟨q3, e3, l3⟩ := lv_fol hlv (1 < levelsN k) _ _ _ _ x h3 l2
  split at h; · cases h
  rename_i l r4 h4
  have g4 : ∃ q4, kdsP tp' E' k n N (q3 ++ x) = .ok (l, q4 ++ x) ∧ Lk r4 q4 := by
    unfold kdsP at h4 ⊢
    split at h4
    · rename_i c1
      rw [if_pos c1]
      exact kidsJ_fol htp _ _ _ _ x h4 l3
    · rename_i c1
      rw [if_neg c1]
      exact kidsK_fol htp _ _ _ _ x h4 l3
  obtain ⟨q4, e4, l4⟩ := g4
  split at h; · cases h
  rename_i h5
  obtain ⟨w5, q5, e5, s5, l5⟩ := take_fol (E' := E') x h5 l4
  have e2' : lvaP lv' k (q1 ++ x) = .ok (i, q2 ++ x) := e2
  have e3' : lvbP lv' k (q2 ++ x) = .ok (j, q3 ++ x) := e3
  unfold bodyP
  rw [e1]; dsimp only; rw [e2']; dsimp only; rw [e3']; dsimp only; rw [e4]; dsimp only; rw [e5]
  cases h
  exact ⟨q5, rfl, l5⟩
/-- What is read stays read: other offsets, another end, more to come, more fuel. -/
theorem termP_fol {E E' : Nat} {i j : Int} : ∀ {f f' : Nat}, f ≤ f' → FolT (termP E i j f) (termP E' i j f')
  | 0, f', _ => fun s N ts v r ts1 x h hl => by cases h
  | f + 1, 0, hf => by omega
  | f + 1, f' + 1, hf => fun s N ts v r ts1 x h hl => by
    cases ts with
    | nil => cases h
    | cons t r0 =>
      obtain ⟨t1, r1, rfl, e1, e2, e3⟩ := hl.cons
      unfold termP at h
      show ∃ q, termP E' i j (f' + 1) s N (t1 :: (r1 ++ x)) = _ ∧ _
      unfold termP
      rw [e1, e2]
      split at h
      · rename_i c1
        rw [if_pos c1]
        unfold listP at h ⊢
        split at h; · cases h
        rename_i w q hw
        obtain ⟨w1, q1, g1, s1, l1⟩ := take_fol (E' := E') x hw e3
        rw [g1]
        dsimp only
        rw [s1]
        split at h; · cases h
        rename_i c2
        rw [if_neg c2]
        exact bodyP_fol (levelP_fol (E' := E') (by omega)) (termP_fol (E' := E') (by omega)) _ _ _ _ x h l1
      · rename_i c1
        rw [if_neg c1]
        split at h
        · rename_i c2
          rw [if_pos c2]
          split at h; · cases h
          rename_i p hp
          (try rw [hp])
          cases h
          exact ⟨r1, rfl, e3⟩
        · cases h
end Go.Proofs.YtllkackipdcekaaDoor

namespace Go.Proofs.YtllkackipdcekaaDoor

theorem Lk.refl (ts : List Tok) : Lk ts ts := rfl
theorem readB_inv {l : List UInt8} {names : Names} {i j : Int} {t : Tm} (h : readB l names i j = .ok t) : ¬ (i < 0 ∨ 1000 < i ∨ j < 0 ∨ 1000 < j) ∧ ∃ ts, lexL l 0 = (ts, none) ∧ termP l.length i j (ts.length + 1) 0 names.reverse ts = .ok (t, []) := by
  unfold readB at h
  split at h; · cases h
  rename_i hc
  refine ⟨hc, ?_⟩
  split at h; · cases h
  rename_i u hu
  cases h
  unfold readT at hu
  split at hu; · cases hu
  rename_i u r hr
  split at hu; · cases hu
  rename_i z hz
  cases hu
  unfold endP at hz
  split at hz
  · rename_i he
    obtain ⟨rfl, hb⟩ := he
    cases hx : lexL l 0 with
    | mk ts o =>
    cases o with
    | none =>
      have ho : ofL l = (ts, l.length, false) := by unfold ofL; rw [hx]
      rw [ho] at hr
      exact ⟨ts, rfl, hr⟩
    | some p =>
      have ho : (ofL l).2.2 = true := by unfold ofL; rw [hx]
      rw [ho] at hb
      cases hb
  · cases hz
theorem readB_mk {l : List UInt8} {names : Names} {i j : Int} {t : Tm} {ts : List Tok} (hc : ¬ (i < 0 ∨ 1000 < i ∨ j < 0 ∨ 1000 < j)) (hx : lexL l 0 = (ts, none)) (h : termP l.length i j (ts.length + 1) 0 names.reverse ts = .ok (t, [])) : readB l names i j = .ok t := by
  have ho : ofL l = (ts, l.length, false) := by unfold ofL; rw [hx]
  unfold readB readT
  rw [if_neg hc, ho]
  dsimp only
  rw [h]
  rfl
end Go.Proofs.YtllkackipdcekaaDoor

namespace Go.Proofs.YtllkackipdcekaaDoor
open Go.Lib

/-- The words of a whole text, without their places. -/
def LX (l : List UInt8) (ps : List (Nat × List UInt8)) : Prop := ∃ ts, lexL l 0 = (ts, none) ∧ ts.map (fun t => (t.k, t.s)) = ps
theorem LX.nil : LX [] [] := ⟨[], lexL_end (by simp), rfl⟩
theorem LX.blank {Y : List UInt8} {ps : List (Nat × List UInt8)} (h : LX Y ps) : LX (32 :: Y) ps := by
  obtain ⟨ts, h1, h2⟩ := h
  have h3 := lex_shift [32] Y _ 0 (Nat.le_refl _)
  rw [h1] at h3
  have h4 : lexL (32 :: Y) 0 = lexL (32 :: Y) 1 := lexL_same (by
    rw [List.drop_zero, skipL_blank (by decide)]
    show 0 + (skipL Y + 1) = 1 + skipL Y
    omega)
  exact ⟨_, h4.trans h3, by rw [← h2]; simp⟩
theorem LX.tok {k : Nat} {s Y : List UInt8} {ps : List (Nat × List UInt8)} (ht : Solid ⟨k, s, 0⟩) (hY : Stops Y) (h : LX Y ps) : LX (s ++ Y) ((k, s) :: ps) := by
  obtain ⟨ts, h1, h2⟩ := h
  obtain ⟨n1, n2⟩ := ht Y hY
  simp only at n1 n2
  have hr := nextL_range n1
  have hx := lex_shift s Y _ 0 (Nat.le_refl _)
  rw [h1] at hx
  have h5 := lexL_next (l := s ++ Y) (p := 0) (q := 0) (k := k) (n := s.length) (by rw [List.drop_zero, n2]) (by simp at hr ⊢; omega) (by rw [List.drop_zero]; exact n1)
  rw [hx] at h5
  exact ⟨_, h5, by rw [← h2]; simp [shB]⟩
theorem runL_all {p : UInt8 → Bool} : ∀ {l : List UInt8}, l.all p = true → runL p l = l.length
  | [], _ => rfl
  | c :: r, h => by
    rw [List.all_cons, Bool.and_eq_true] at h
    rw [runL_yes h.1, runL_all h.2]
    rfl
theorem letter_not {c : UInt8} (h : letterC c = true) : ¬ c.toNat = 40 ∧ ¬ c.toNat = 41 ∧ ¬ c.toNat = 32 := by
  unfold letterC at h
  simp only [Bool.or_eq_true, Bool.and_eq_true, decide_eq_true_eq] at h
  omega
theorem digit_not {c : UInt8} (h : isd c = true) : ¬ c.toNat = 40 ∧ ¬ c.toNat = 41 ∧ letterC c = false := by
  unfold isd at h
  simp only [Bool.and_eq_true, decide_eq_true_eq] at h
  refine ⟨by omega, by omega, ?_⟩
  unfold letterC
  rw [decide_eq_false (by omega : ¬ 97 ≤ c.toNat), decide_eq_false (by omega : ¬ 65 ≤ c.toNat)]
  rfl
theorem sol_word {c : UInt8} {r : List UInt8} (h1 : letterC c = true) (h2 : r.all wordC = true) (h3 : r.length < 20) : Solid ⟨3, c :: r, 0⟩ := by
  obtain ⟨n1, n2, -⟩ := letter_not h1
  have hl : runL wordC (c :: r) = (c :: r).length := runL_all (by rw [List.all_cons, h2]; unfold wordC; rw [h1]; rfl)
  have hn := next_word (r := r) n1 n2 h1 (by rw [hl]; simp; omega)
  have h := solid_of (a := 0) hn
  rw [hl, List.take_length] at h
  exact h
theorem sol_num {n : Int} (h0 : 0 ≤ n) (h1 : n ≤ 1000000) : Solid ⟨4, itoa n, 0⟩ := by
  have hg : getB (itoa n) = some n.toNat := by rw [get_itoa, if_pos ⟨h0, h1⟩]
  have hd : digs (itoa n) = true := by
    unfold itoa
    rw [if_neg (by omega)]
    exact dec_digs _
  have hne : itoa n ≠ [] := by
    intro e
    rw [e] at hg
    have := congrArg getB e
    unfold itoa at e
    rw [if_neg (by omega)] at e
    obtain ⟨c, l, h, -⟩ := dec_head n.toNat
    rw [h] at e
    cases e
  generalize itoa n = x at hg hd hne
  match x, hne with
  | c :: r, _ =>
    have hl : runL isd (c :: r) = (c :: r).length := runL_all hd
    have hc : isd c = true := by
      unfold digs at hd
      rw [List.all_cons, Bool.and_eq_true] at hd
      exact hd.1
    obtain ⟨n1, n2, n3⟩ := digit_not hc
    have hn := next_num (r := r) n1 n2 n3 hc (by
      rw [hl, List.take_length, List.drop_length, hg]
      rintro (e | e) <;> cases e)
    have h := solid_of (a := 0) hn
    rw [hl, List.take_length] at h
    exact h
theorem stops_32 (Y : List UInt8) : Stops (32 :: Y) := fun c r e => by cases e; decide
theorem LX.open_ {Y : List UInt8} {ps : List (Nat × List UInt8)} (h : LX Y ps) : LX (40 :: Y) ((1, [40]) :: ps) := by
  obtain ⟨ts, h1, h2⟩ := h
  have hx := lex_shift [40] Y _ 0 (Nat.le_refl _)
  rw [h1] at hx
  have h5 := lexL_next (l := 40 :: Y) (p := 0) (q := 0) (k := 1) (n := 1) (by rw [List.drop_zero, skipL_stop (by decide) (by decide)]) (by simp) (by rw [List.drop_zero]; exact next_open (by decide))
  rw [show lexL (40 :: Y) (0 + 1) = shB 1 (ts, none) from hx] at h5
  exact ⟨_, h5, by rw [← h2]; simp [shB]⟩
theorem LX.close {Y : List UInt8} {ps : List (Nat × List UInt8)} (h : LX Y ps) : LX (41 :: Y) ((2, [41]) :: ps) := by
  obtain ⟨ts, h1, h2⟩ := h
  have hx := lex_shift [41] Y _ 0 (Nat.le_refl _)
  rw [h1] at hx
  have h5 := lexL_next (l := 41 :: Y) (p := 0) (q := 0) (k := 2) (n := 1) (by rw [List.drop_zero, skipL_stop (by decide) (by decide)]) (by simp) (by rw [List.drop_zero]; exact next_close (by decide))
  rw [show lexL (41 :: Y) (0 + 1) = shB 1 (ts, none) from hx] at h5
  exact ⟨_, h5, by rw [← h2]; simp [shB]⟩
def tk (p : Nat × List UInt8) : Tok := ⟨p.1, p.2, 0⟩
theorem readB_LX {l : List UInt8} {ps : List (Nat × List UInt8)} {names : Names} {i j : Int} {E f : Nat} {t : Tm} (hc : ¬ (i < 0 ∨ 1000 < i ∨ j < 0 ∨ 1000 < j)) (hx : LX l ps) (hf : f ≤ ps.length + 1) (h : termP E i j f 0 names.reverse (ps.map tk) = .ok (t, [])) : readB l names i j = .ok t := by
  obtain ⟨ts, h1, h2⟩ := hx
  have hlen : ts.length = ps.length := by rw [← h2, List.length_map]
  refine readB_mk hc h1 ?_
  obtain ⟨r1, e1, e2⟩ := termP_fol (E' := l.length) (i := i) (j := j) (f := f) (f' := ts.length + 1) (by omega) 0 names.reverse (ps.map tk) t [] ts [] h (by unfold Lk; rw [h2, List.map_map]; exact List.map_id' _)
  obtain rfl := e2.nil
  rw [List.append_nil] at e1
  exact e1
end Go.Proofs.YtllkackipdcekaaDoor
