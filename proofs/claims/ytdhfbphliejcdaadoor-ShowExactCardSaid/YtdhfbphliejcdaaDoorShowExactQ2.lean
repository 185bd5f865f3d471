/-
  ShowExact holds: for every input the call returns true, and the arguments read as before. No condition.
-/
import Derived.Lib.ItoaNum
import Derived.Lib.ItoaLen
import Derived.Test.YtdhfbphliejcdaaDoorRows
import Derived.WalkKit
import Derived.Lib.Hide
import Derived.ProofKit
import Derived.LoopTactic
import Derived.Below
import Derived.IntWalk
import Derived.Lib.Strings
import Derived.Laws.Strings2
import Derived.Deep.AppendLies
import Derived.Laws.Rows
import Derived.OwnWalk
import Derived.KernelRfl
import Derived.Deep.RegionHeld3
import Derived.Lib.Builder
import Derived.WalkSmall
import Derived.Maps.GroupsBeside
import Derived.Maps.StringElems
import Derived.Laws.OwnMore
import Derived.Deep.RegionLaw
import Derived.Maps.AppendAt
import Derived.Deep.Cut
import Derived.Deep.DeepCutAuto
import Derived.Maps.OwnOps
import Derived.Maps.OwnSet
import Derived.Lib.MinMax
import Derived.Laws.IdiomCopy
import Derived.Deep.Slices
import Derived.Lib.QuietBelow
import Derived.StillTailTactics
import Derived.BigQuiet
import Derived.Deep.RegionWith
import Derived.OrdersHeld
import Derived.Laws.StructEq
import GoSem.Core.Float
import Derived.Laws.Cover2
import Derived.Laws.FloatArith
import Derived.Laws.Externs
import Derived.Deep.QuietTactic
import Derived.Recover
import Derived.RegionTactic
import Derived.Defers
import Derived.Test.YtdhfbphliejcdaaDoorShelf
import Derived.Lib.AppendIntMem
import Derived.Lib.LaidTab
import Derived.Lib.AppendStr
import Derived.Lib.UnsafeStr
import Derived.Shelf.RegionOpenPlain
import Derived.Laws.AppendOwn
import Derived.Deep.CutBlock
import Derived.Deep.LoopGhost
import Derived.Laws.BytesArg
import Derived.Laws.AppendOwnNone
import Derived.OpenShut
import Derived.Carry
import Derived.LaidMore
import Derived.LaidSub
import Derived.LaidHandle
import Derived.Stop.Joined
import Derived.JoinedOf
import Derived.Test.YtdhfbphliejcdaaDoorCards
import Derived.Test.YtdhfbphliejcdaaDoorTie
import Derived.SevenTiedAt
import Derived.ChangeMaps5
import Derived.Test.YtdhfbphliejcdaaDoorShowExactQ1
namespace Go.Proofs.YtdhfbphliejcdaaDoor.Dv
open Go.RowKit

/-- The text of a derivation, or nothing. -/
def shownD (t : Tm) : List UInt8 := if t.rightB = true then t.sh else []
def shownF (c : List Tm) (t : Tm) : List UInt8 := if rights c = true ∧ t.rightB = true then fileL c t else []
theorem sh_some (t : Tm) : t.sh ≠ [] := by rw [t.sh_eq]; simp
def headF : List UInt8 := [40, 102, 105, 108, 101, 32, 40]
theorem file_text (c : List Tm) (t : Tm) : fileL c t = headF ++ ctxL c ++ [41, 32] ++ t.sh ++ [41, 10] := by unfold fileL headF fileW; simp
theorem ctx_take (l : List Tm) (q : Nat) (h : q < l.length) : ctxL (l.take (q + 1)) = (ctxL (l.take q) ++ (if 0 < q then [32] else [])) ++ (l[q]).sh := by
  cases l with
  | nil => simp at h
  | cons x r =>
    cases q with
    | zero => simp [ctxL, shs]
    | succ q =>
      simp only [List.take_succ_cons, ctxL, List.getElem_cons_succ]
      rw [shs_take r q (by simpa using h)]
      simp
theorem ctx_room {l : List Tm} {q : Nat} (hr : rights (l.take q) = true) (h : q < l.length) : (ctxL (l.take q)).length + 32 * (l[q]).size ≤ 32 * sizes l := by
  have h1 := ctx_len hr
  have h2 := sizes_take l q h
  have h3 := sizes_le l (q + 1)
  omega
theorem rights_false {l : List Tm} {q : Nat} (h : q < l.length) (hr : (l[q]).rightB = false) : rights l = false := rights_of l q h hr
/-- Beside the boxed file there is only what is new. -/
def HeldF (w : World) (cv : Value) (k i : Int) (s : Value) (w' : World) : Prop := Below (w.heap.size + 1) (w.alloc (fileO cv k i s)) w'
theorem heldF_at {w w' : World} {cv : Value} {k i : Int} {s : Value} (h : HeldF w cv k i s w') : w'.heap[w.heap.size]? = some (fileO cv k i s) := (h.block _ (Nat.lt_succ_self _)).trans (alloc_new _ _)
theorem heldF_call {w w1 w2 : World} {cv : Value} {k i : Int} {s : Value} (h : HeldF w cv k i s w1) (hb : Below w1.heap.size w1 w2) : HeldF w cv k i s w2 := below_call h hb (by have := h.size; simpa using this)
theorem heldF_below {w w1 : World} {cv : Value} {k i : Int} {s : Value} (h : HeldF w cv k i s w1) : Below w.heap.size w w1 := below_of_box h
theorem heldF_lies {w w1 : World} {cv : Value} {k i : Int} {s s' : Value} {l : List Tm} (h : HeldF w cv k i s w1) (hl : Lies w l s') : Lies w1 l s' := hl.keep (heldF_below h)
theorem tab_up {w w' : World} (h : Tab w) (hb : Below w.heap.size w w') : Tab w' := h.later hb
set_option maxHeartbeats 4000000 in
set_option maxRecDepth 100000 in
theorem sderiv_any (t : Tm) (w : World) (s : Value) (hl : Lies w t.kids s) (hT : Tab w) (hz : t.size ≤ 1000000) :
    Calls Tryd.prog 8 #[tv t s] w fun e w' => e = .returned (.string ⟨(shownD t).toArray⟩) ∧ Below w.heap.size w w' := by
  obtain ⟨a, cap, S, rfl, -⟩ := hl.out
  have HH := Lib.hid (held_start w t (.slice a t.kids.length cap))
  have HL := Lib.hid (hl.keep ((Below.refl _ _).alloc (Nat.le_refl _) (.cells #[.int .i64 t.k, .int .i64 t.i, .slice a t.kids.length cap] 24)))
  have HT := Lib.hid hT
  clear hl hT
  unfold tv
  go_enter Tryd.func8, Tryd.ntmps8
  cases hr : t.rightB with
  | false =>
    go_wp2_with fail
    refine (dright_any t _ _ HL.out).mono ?_
    rintro e w1 ⟨rfl, hb1⟩
    rw [hr]
    have HB1 := Lib.hid (held_below (held_call HH.out hb1))
    clear hb1
    go_wp2
    go_ret
    exact ⟨by unfold shownD; rw [if_neg (by rw [hr]; decide)]; rfl, HB1.out⟩
  | true =>
    go_wp2_with fail
    refine (dright_any t _ _ HL.out).mono ?_
    rintro e w1 ⟨rfl, hb1⟩
    rw [hr]
    have H1 := Lib.hid (held_call HH.out hb1)
    have HL1 := Lib.hid (HL.out.keep hb1)
    have HT1 := Lib.hid (tab_up HT.out (held_below H1.out))
    obtain ⟨d0, d1, d2⟩ := held_cells H1.out
    have hlt1 : w.heap.size < w1.heap.size := by have := H1.out.size; simp at this; omega
    clear hb1
    go_wp2_with fail
    refine ((sput_any w1 HT1.out w1.heap.size t).use _ _ [] HL1.out ((Below.refl _ w1).alloc (Nat.le_refl _) _) (Lib.fresh_isBuilder _ _ w1) hr (by simp; omega)).mono ?_
    rintro e w3 ⟨rfl, hb3, hl3, hk3⟩
    have HB3 := Lib.hid hb3
    have HL3 := Lib.hid hl3
    clear hb3 hl3 hk3
    go_wp2_with fail
    refine (btext_any _ _ _ t.sh w3 (by simpa using HB3.out) (sh_some t)).mono ?_
    rintro e w4 ⟨rfl, hb4⟩
    have HB4 := Lib.hid hb4
    clear hb4
    go_wp2
    go_ret
    exact ⟨by unfold shownD; rw [if_pos hr]; rfl, (held_below H1.out).trans ((((Below.refl _ w1).alloc (Nat.le_refl _) _).trans (HL3.out.trans HB4.out)).mono (by omega))⟩
set_option maxHeartbeats 4000000 in
set_option maxRecDepth 100000 in
theorem sfile_any (c : List Tm) (t : Tm) (w : World) (cv s : Value) (hc : Lies w c cv) (hl : Lies w t.kids s) (hT : Tab w) (hz : sizes c + t.size ≤ 1000000) :
    Calls Tryd.prog 10 #[fv cv t s] w fun e w' => e = .returned (.string ⟨(shownF c t).toArray⟩) ∧ Below w.heap.size w w' := by
  obtain ⟨a1, c1, S1, rfl, hcc, hcm, -, hn, hk⟩ := hc.out
  obtain ⟨a2, c2, S2, rfl, -⟩ := hl.out
  have HH := Lib.hid (show HeldF w (.slice a1 c.length c1) t.k t.i (.slice a2 t.kids.length c2) (w.alloc (fileO (.slice a1 c.length c1) t.k t.i (.slice a2 t.kids.length c2))) from Below.refl _ _)
  have HC := Lib.hid (heldF_lies HH.out hc)
  have HL := Lib.hid (heldF_lies HH.out hl)
  have HT := Lib.hid hT
  have HN := Lib.hid hn
  have HK := Lib.hid hk
  unfold maxLen at hcm
  clear hl hT hc hn hk
  unfold fv
  go_enter Tryd.func10, Tryd.ntmps10
  go_upto_region 1 with fail
  obtain ⟨wB, hwB⟩ : ∃ wB, wB = w.alloc (fileO (.slice a1 c.length c1) t.k t.i (.slice a2 t.kids.length c2)) := ⟨_, rfl⟩
  rw [← hwB] at HH HC HL
  rw [← hwB]
  clear hwB
  obtain ⟨y0, y1, y2, y3⟩ := four_cells (heldF_at HH.out)
  cases hr : t.rightB with
  | false =>
    go_wp2_with fail
    refine (dright_any t _ _ HL.out).mono ?_
    rintro e w1 ⟨rfl, hb1⟩
    rw [hr]
    have HB1 := Lib.hid (heldF_below (heldF_call HH.out hb1))
    clear hb1
    go_wp2
    go_ret
    exact ⟨by unfold shownF; rw [if_neg (by rw [hr]; simp)]; rfl, HB1.out⟩
  | true =>
    go_wp2_with fail
    refine (dright_any t _ _ HL.out).mono ?_
    rintro e w1 ⟨rfl, hb1⟩
    rw [hr]
    have H1 := Lib.hid (heldF_call HH.out hb1)
    have HC1 := Lib.hid (HC.out.keep hb1)
    have HL1 := Lib.hid (HL.out.keep hb1)
    have HT1 := Lib.hid (tab_up HT.out (heldF_below H1.out))
    have HW1 := Lib.hid (heldF_below H1.out)
    have HF1 := Lib.hid (heldF_at H1.out)
    have hlt1 : w.heap.size < w1.heap.size := hltD HF1.out
    have HS := Lib.hid (show WSt w1 w1.heap.size (w1.alloc (.cells #[.pointer none, .slice none 0 0] 51)) [] (w1.alloc (.cells #[.pointer none, .slice none 0 0] 51)) from ⟨Lib.fresh_isBuilder _ _ w1, (Below.refl _ w1).alloc (Nat.le_refl _) _, Kept.refl _ _, Below.refl _ _⟩)
    have HFB := Lib.hid (show (w1.alloc (.cells #[.pointer none, .slice none 0 0] 51)).heap[w.heap.size]? = some (fileO (.slice a1 c.length c1) t.k t.i (.slice a2 t.kids.length c2)) from by rw [Lib.alloc_old _ _ _ hlt1]; exact HF1.out)
    have hne : w.heap.size ≠ w1.heap.size := by omega
    clear hb1 y0 y1 y2 y3 HH HC HL
    go_upto_region 4 with fail
    obtain ⟨V, hV⟩ : ∃ V, V = w1.alloc (.cells #[.pointer none, .slice none 0 0] 51) := ⟨_, rfl⟩
    rw [← hV] at HS HFB
    rw [← hV]
    clear hV
    go_wp2_with fail
    refine (bstr_any _ w1.heap.size _ _ _ HS.out.bld (by decide) HS.out.hB).mono ?_
    rintro e w2 ⟨rfl, hb2, hl2, hk2⟩
    have h2 := HS.out.put hb2 hl2 hk2
    rw [show (⟨#[40, 102, 105, 108, 101, 32, 40]⟩ : ByteArray) = ⟨headF.toArray⟩ from rfl, Lib.strCells_toArray, List.nil_append] at h2
    have HS2 := Lib.hid h2
    clear hb2 hl2 hk2 h2
    have hfb := HS2.out.at HFB.out hne uf_ne
    obtain ⟨y0, y1, y2, y3⟩ := four_cells hfb
    clear hfb
    go_wp2_with fail
    clear y0 y1 y2 y3
    go_loopw [14] (fun i wv => ∃ q : Nat, q ≤ c.length ∧ i = .int .i64 q ∧ Hid (rights (c.take q) = true) ∧ Hid (WSt w1 w1.heap.size V (Lib.byteCells (headF ++ ctxL (c.take q))) wv)) (fun i _ => c.length - (intOf i).toNat)
    case atStart => exact ⟨0, Nat.zero_le _, rfl, rfl, by have h := HS2.out; simp only [List.take_zero, ctxL, List.append_nil]; exact h⟩
    case round =>
      clear HS2
      obtain ⟨q, hq, rfl, hrq, hv⟩ := hrel
      have HV := Lib.hid hv.out
      have HRQ := Lib.hid hrq.out
      clear hv hrq
      by_cases hlt : q < c.length
      · obtain ⟨bn, oo, rfl, hx⟩ := HN.out q hlt
        obtain ⟨e0, e1, e2⟩ := hx.below (HW1.out.trans (HV.out.low.mono (Nat.le_of_lt hlt1))) hx.lt
        have hq4 := HK.out q hlt
        obtain ⟨a', cap', S', hS, -⟩ := hq4.out
        rw [hS] at e2 hq4
        have HQ := Lib.hid (hq4.keep HW1.out)
        have HM := Lib.hid (List.getElem_mem hlt)
        have HRM := Lib.hid (ctx_room HRQ.out hlt)
        have HTK := Lib.hid (ctx_take c q hlt)
        have HRT := Lib.hid (rights_take c q hlt)
        have HNR := Lib.hid (fun h => rights_false hlt h)
        have HV5 := Lib.hid (HV.out.call (wr' := wr.alloc (.cells #[.int .i64 c[q].k, .int .i64 c[q].i, .slice a' c[q].kids.length cap'] 24)) ((Below.refl _ _).alloc (Nat.le_refl _) _))
        have hq5 := HQ.out.keep HV5.out.low
        have HR5 := Lib.hid (dright_any c[q] _ _ hq5)
        have HV5a := Lib.hid HV5.out.again
        have hsv : w1.heap.size < wr.heap.size := isB_lt HV.out.bld
        clear hS hq4 hx hq5
        cases hrk : (c[q]).rightB with
        | false =>
          go_wp2_with fail
          refine HR5.out.mono ?_
          rintro e w3 ⟨rfl, hb3⟩
          rw [hrk]
          have HB3 := Lib.hid (HW1.out.trans ((HV5.out.call hb3).low.mono (Nat.le_of_lt hlt1)))
          clear hb3 e0 e1 e2
          go_wp2
          go_ret
          exact ⟨by unfold shownF; rw [HNR.out hrk, if_neg (by simp)]; rfl, HB3.out⟩
        | true =>
          go_wp2_with fail
          refine HR5.out.mono ?_
          rintro e w3 ⟨rfl, hb3⟩
          rw [hrk]
          have HS3 := Lib.hid (HV5a.out.call hb3)
          clear hb3 e0 e1 e2
          have hwq : IntKind.i64.wrap ((q : Int) + 1) = (q : Int) + 1 := IntWalk.i64_in _ (by omega)
          by_cases hq0 : 0 < q
          · have hq0' : (0 : Int) < (q : Int) := by omega
            have hqd : decide ((0 : Int) < (q : Int)) = true := decide_eq_true hq0'
            have HTE := Lib.hid (show ctxL (c.take (q + 1)) = ctxL (c.take q) ++ [32] ++ (c[q]).sh by rw [HTK.out, if_pos hq0])
            clear hq0
            go_wp2_with fail
            refine (bbyte_any _ w1.heap.size _ _ _ HS3.out.bld (by have := HRM.out; simp [Lib.byteCells, headF]; omega) HS3.out.hB).mono ?_
            rintro e w6 ⟨rfl, hb6, hl6, hk6⟩
            have HS6 := Lib.hid (HS3.out.put hb6 hl6 hk6)
            clear hb6 hl6 hk6
            obtain ⟨y0, y1, y2⟩ := HS6.out.cells (x := wr.heap.size) (alloc_new _ _) (by omega)
            go_wp2_with fail
            refine ((sput_any w1 HT1.out w1.heap.size c[q]).use _ _ _ HQ.out HS6.out.low HS6.out.bld hrk (by have := HRM.out; simp [Lib.byteCells, headF]; omega)).mono ?_
            rintro e w8 ⟨rfl, hb8, hl8, hk8⟩
            have HS8 := Lib.hid (HV.out.over (HS6.out.put hb8 hl8 hk8))
            clear hb8 hl8 hk8 y0 y1 y2
            go_wp2_with fail
            go_roundw
            case rel => exact ⟨q + 1, hlt, by go_num, by show _ = true; rw [HRT.out, HRQ.out, hrk]; rfl, by have h := HS8.out; rw [HTE.out]; simpa [Lib.byteCells, Hid] using h⟩
            case measure => simp [intOf]; omega
          · obtain rfl : q = 0 := by omega
            have HTE := Lib.hid (show ctxL (c.take (0 + 1)) = ctxL (c.take 0) ++ (c[0]).sh by rw [HTK.out, if_neg (by omega), List.append_nil])
            have hqd : decide ((0 : Int) < ((0 : Nat) : Int)) = false := rfl
            obtain ⟨y0, y1, y2⟩ := HS3.out.cells (x := wr.heap.size) (alloc_new _ _) (by omega)
            go_wp2_with fail
            refine ((sput_any w1 HT1.out w1.heap.size c[0]).use _ _ _ HQ.out HS3.out.low HS3.out.bld hrk (by have := HRM.out; simp [Lib.byteCells, headF, ctxL]; omega)).mono ?_
            rintro e w8 ⟨rfl, hb8, hl8, hk8⟩
            have HS8 := Lib.hid (HV.out.over (HS3.out.put hb8 hl8 hk8))
            clear hb8 hl8 hk8 y0 y1 y2
            go_wp2_with fail
            go_roundw
            case rel => exact ⟨0 + 1, hlt, by go_num, by show _ = true; rw [HRT.out, HRQ.out, hrk]; rfl, by have h := HS8.out; rw [HTE.out]; simpa [Lib.byteCells, Hid] using h⟩
            case measure => simp [intOf]; omega
      · obtain rfl : q = c.length := by omega
        rw [List.take_length] at HV HRQ
        have HLC := Lib.hid (ctx_len HRQ.out)
        have HLT := Lib.hid (sh_len t hr)
        go_wp2_with fail
        refine (bstr_any _ w1.heap.size _ _ _ HV.out.bld (by have := HLC.out; simp [Lib.byteCells, headF, ByteArray.size]; omega) HV.out.hB).mono ?_
        rintro e w5 ⟨rfl, hb5, hl5, hk5⟩
        have h5 := HV.out.put hb5 hl5 hk5
        rw [show (⟨#[41, 32]⟩ : ByteArray) = ⟨[(41 : UInt8), 32].toArray⟩ from rfl, Lib.strCells_toArray] at h5
        have HS5 := Lib.hid h5
        clear hb5 hl5 hk5 h5
        have hfb := HS5.out.at HFB.out hne uf_ne
        obtain ⟨y0, y1, y2, y3⟩ := four_cells hfb
        clear hfb
        go_wp2_with fail
        refine ((sput_any w1 HT1.out w1.heap.size t).use _ _ _ HL1.out HS5.out.low HS5.out.bld hr (by have := HLC.out; simp [Lib.byteCells, headF]; omega)).mono ?_
        rintro e w6 ⟨rfl, hb6, hl6, hk6⟩
        have HS6 := Lib.hid (HS5.out.put hb6 hl6 hk6)
        clear hb6 hl6 hk6 y0 y1 y2 y3
        go_wp2_with fail
        refine (bstr_any _ w1.heap.size _ _ _ HS6.out.bld (by have := HLC.out; have := HLT.out; simp [Lib.byteCells, headF, ByteArray.size]; omega) HS6.out.hB).mono ?_
        rintro e w7 ⟨rfl, hb7, hl7, hk7⟩
        have HS7 := Lib.hid (HS6.out.put hb7 hl7 hk7)
        have HB7 := Lib.hid (show BAt w1.heap.size w1.heap.size (.pointer (some ⟨w1.heap.size, 0, none⟩)) (Lib.byteCells (fileL c t)) w7 from by
          have h := hb7
          rw [show (⟨#[41, 10]⟩ : ByteArray) = ⟨[(41 : UInt8), 10].toArray⟩ from rfl, Lib.strCells_toArray] at h
          rw [file_text]
          simpa [Lib.byteCells] using h)
        clear hb7 hl7 hk7
        go_wp2_with fail
        refine (btext_any _ _ _ (fileL c t) w7 HB7.out (by unfold fileL; simp)).mono ?_
        rintro e w8 ⟨rfl, hb8⟩
        have HB8 := Lib.hid hb8
        clear hb8
        go_wp2
        go_ret
        exact ⟨by unfold shownF; rw [if_pos ⟨HRQ.out, hr⟩]; rfl, HW1.out.trans ((HS7.out.low.trans HB8.out).mono (Nat.le_of_lt hlt1))⟩
end Go.Proofs.YtdhfbphliejcdaaDoor.Dv

namespace Go.Proofs.YtdhfbphliejcdaaDoor
open Go.RowKit Go.Lib

/-- The bytes' cells. -/
def cells8 (l : List UInt8) : List Value := l.map fun c => .int .u8 (c.toNat : Int)
theorem nums_str (l : List UInt8) : strOfNums (l.map fun c => (c.toNat : Int)) = ⟨l.toArray⟩ := by
  unfold strOfNums
  congr 2
  rw [List.map_map]
  conv => rhs; rw [← List.map_id l]
  apply List.map_congr_left
  intro c _
  simp
theorem str_of_row {w : World} {B : Nat} {g cap : Nat} {l : List UInt8} (h : w.ownsRow B 5 1 (.slice (some ⟨g, 0, none⟩) l.length cap) l.length (cells8 l)) :
    (convert 49 9 (.slice (some ⟨g, 0, none⟩) l.length cap)).run Tryd.prog w = .ok (.string ⟨l.toArray⟩) w := by
  have := run_convert_bytes_arg (P := Tryd.prog) w 49 5 Tryd.underlying49 Tryd.underlying5 g 0 l.length cap (l.map fun c => (c.toNat : Int)) (by simp) (fun i hi => by
    rw [Nat.zero_add, h.cellAt i (by omega)]
    simp [cells8, List.getD, hi]) 9 Tryd.underlying9
  rw [nums_str] at this
  exact this
/-- What the page's loop has written: the digits behind what is left of the number. -/
def DigInv (u0 u : Nat) (l : List UInt8) : Prop := (0 < u ∧ decDigits u0 = decDigits u ++ l) ∨ (u = 0 ∧ decDigits u0 = l)
theorem digInv_step {u0 u : Nat} {l : List UInt8} (h : DigInv u0 u l) (hu : 0 < u) : DigInv u0 (u / 10) (UInt8.ofNat (48 + u % 10) :: l) := by
  rcases h with ⟨-, h⟩ | ⟨h, -⟩
  · by_cases h10 : u < 10
    · refine Or.inr ⟨by omega, ?_⟩
      rw [h, decDigits_one h10, Nat.mod_eq_of_lt h10]; rfl
    · refine Or.inl ⟨by omega, ?_⟩
      rw [h, decDigits, dif_neg h10]; simp
  · omega
theorem digInv_len {u0 u : Nat} {l : List UInt8} (h : DigInv u0 u l) (h64 : u0 < 18446744073709551616) : l.length ≤ 20 := by
  have h1 := nDigits_le20 u0 h64
  rw [← decDigits_length] at h1
  rcases h with ⟨-, h⟩ | ⟨-, h⟩
  · rw [h, List.length_append] at h1; omega
  · rw [h] at h1; exact h1
theorem wrap_u64 (n : Int) : IntKind.u64.wrap n = n % 18446744073709551616 := by
  unfold IntKind.wrap; simp [IntKind.signed, IntKind.bits]
theorem cells8_len (l : List UInt8) : (cells8 l).length = l.length := by simp [cells8]
theorem cells8_one (l : List UInt8) : ∀ u ∈ cells8 l, u.oneCell' = true := by
  intro u hu
  obtain ⟨c, -, rfl⟩ := List.mem_map.1 hu
  rfl
theorem row_base {w : World} {b b' : Nat} {e : TypeId} {size : Nat} {v : Value} {n : Nat} {xs : List Value} (h : w.ownsRow b e size v n xs) (hb : b' ≤ b) : w.ownsRow b' e size v n xs := by
  refine ⟨h.1, ?_⟩
  rcases h.2 with h' | ⟨g, cap, cur, h1, h2, h3⟩
  · exact Or.inl h'
  · exact Or.inr ⟨g, cap, cur, h1, Nat.le_trans hb h2, h3⟩
theorem row_more {w : World} {b b' : Nat} {e : TypeId} {v : Value} {c : UInt8} {l : List UInt8} (h : w.ownsRow b e 1 v (1 + l.length) (.int .u8 (c.toNat : Int) :: cells8 l)) (hb : b' ≤ b) : w.ownsRow b' e 1 v (c :: l).length (cells8 (c :: l)) := by
  rw [List.length_cons, Nat.add_comm]; exact row_base h hb
theorem cat_one (A : List UInt8) : (⟨#[45]⟩ : ByteArray) ++ (⟨A.toArray⟩ : ByteArray) = ⟨(45 :: A).toArray⟩ := by
  apply ByteArray.ext; rw [ByteArray.data_append]; simp
theorem info_u8 : (Tryd.prog.info? 5).map (fun i => (i.zero, i.size, i.bytes)) = some (some (.int .u8 0), 1, 1) := by kernel_rfl

set_option maxHeartbeats 2000000 in
set_option maxRecDepth 20000 in
theorem refput_any (n : Int) (w : World) (hn : I64 n) : Calls Tryd.prog 43 #[.int .i64 n] w fun e w' => e = .returned (.string ⟨(itoa n).toArray⟩) ∧ Below w.heap.size w w' := by
  obtain ⟨hn0, hn1⟩ := hn
  by_cases h0 : n = 0
  · subst h0
    go_enter Tryd.func43, Tryd.ntmps43
    go_wp2
    go_ret
    exact ⟨by rw [show itoa 0 = [48] by decide +kernel]; rfl, Below.refl _ _⟩
  have e0 : (n == 0) = false := by simpa using h0
  obtain ⟨i0, hi, hz0, hz1, hz2⟩ := info_parts info_u8
  have HI := Lib.hid (And.intro hi (And.intro hz0 (And.intro hz1 hz2)))
  clear hi hz0 hz1 hz2
  obtain ⟨u0, hu0⟩ : ∃ u0 : Nat, n.natAbs = u0 := ⟨_, rfl⟩
  have hupos : 0 < u0 := by omega
  have HD0 : Hid (DigInv u0 u0 []) := Or.inl ⟨hupos, by simp⟩
  have HU0 : Hid (u0 ≤ 9223372036854775808) := by rw [Hid]; omega
  have H64 : Hid (u0 < 18446744073709551616) := by rw [Hid]; omega
  by_cases hneg : n < 0
  · have HRES := Lib.hid (show itoa n = 45 :: decDigits u0 by unfold itoa; rw [if_pos hneg, hu0])
    have hw : IntKind.u64.wrap (-IntKind.u64.wrap n) = (u0 : Int) := by
      rw [wrap_u64, wrap_u64]; omega
    clear hu0 hupos
    go_enter Tryd.func43, Tryd.ntmps43
    go_wp2
    go_loopw [3, 4] (fun u3 v wr => ∃ (u : Nat) (l : List UInt8), u3 = .int .u64 u ∧ Hid (DigInv u0 u l) ∧ Hid (u ≤ 9223372036854775808) ∧ wr.ownsRow w.heap.size 5 1 v l.length (cells8 l) ∧ Hid ((v = .slice none 0 0 ∧ l = []) ∨ (∃ g cap, v = .slice (some ⟨g, 0, none⟩) l.length cap ∧ 0 < l.length)) ∧ Below w.heap.size w wr) (fun u3 _ _ => (RowKit.intOf u3).toNat)
    case atStart => exact ⟨u0, [], rfl, HD0.out, HU0.out, World.ownsRow_nil _ _ _ _, Or.inl ⟨rfl, rfl⟩, Below.refl _ _⟩
    case round =>
      obtain ⟨u, l, rfl, hd, hub, hown, hvv, hb⟩ := hrel
      have hub0 : (u : Int) ≤ 9223372036854775808 := by have := hub.out; omega
      have hlen := digInv_len hd.out H64.out
      by_cases hu : 0 < u
      · have HN := Lib.hid (digInv_step hd.out hu)
        have hu' : 0 < (u : Int) := by omega
        obtain ⟨c, hc⟩ : ∃ c, UInt8.ofNat (48 + u % 10) = c := ⟨_, rfl⟩
        have hcn : (c.toNat : Int) = 48 + (u : Int) % 10 := by rw [← hc, ofNat_toNat _ (by omega)]; omega
        rw [hc] at HN
        have hcw : IntKind.u8.wrap (48 + (u : Int) % 10) = (c.toNat : Int) := by rw [hcn]; exact IntWalk.u8_in _ (by omega)
        have HUB := Lib.hid (show u / 10 ≤ 9223372036854775808 by omega)
        have hq : ((u / 10 : Nat) : Int) = (u : Int) / 10 := by omega
        have HQ := Lib.hid hq
        clear hc hcn hd hub hq
        have hB1 : w.heap.size ≤ wr.heap.size := hb.size
        have hlit := World.ownsRow_lit (base := wr.heap.size) (e := 5) (size := 1) wr #[.int .u8 (c.toNat : Int)] 1 (Nat.le_refl _) (by unfold maxLen; omega) rfl
        have hbl : Below w.heap.size w (wr.alloc (.cells #[.int .u8 (c.toNat : Int)] 5)) := hb.alloc hB1 _
        have hown1 := hown.alloc (.cells #[.int .u8 (c.toNat : Int)] 5)
        rcases hvv.out with ⟨rfl, rfl⟩ | ⟨g, cap, rfl, hl0⟩
        · clear hvv hown1
          have HLIT := Lib.hid hlit
          have HBL := Lib.hid hbl
          clear hlit hbl hb hown
          go_wp2_with (at_builtin; refine wpList_append_own_none rfl _ _ 49 rfl wr.heap.size 5 i0 1 Tryd.underlying49 HI.out.1 _ 1 _ rfl HLIT.out rfl ?_)
          go_roundw
          case rel => exact ⟨u / 10, [c], by rw [HQ.out], HN.out, HUB.out, row_base HLIT.out hB1, Or.inr ⟨_, _, rfl, by simp⟩, HBL.out⟩
          case measure => simp [RowKit.intOf]; omega
        · have hcl := World.ownsRow.cells (hown.alloc (.cells #[.int .u8 (c.toNat : Int)] 5)) (g := g) rfl
          have HLIT := Lib.hid hlit
          have HBL := Lib.hid hbl
          have HCL := Lib.hid hcl
          have HB1 := Lib.hid hB1
          clear hlit hbl hb hown hown1 hcl hB1 hvv
          go_wp2_with (at_builtin; refine wpList_append_lies _ rfl _ _ 49 rfl wr.heap.size 5 i0 (.int .u8 0) 1 1 Tryd.underlying49 HI.out.1 HI.out.2.1 HI.out.2.2.1 HI.out.2.2.2 rfl (by decide) (.slice (some ⟨wr.heap.size, 0, none⟩) 1 1) 1 _ rfl HLIT.out ⟨g, 0, none⟩ l.length cap (cells8 l) rfl (by rw [cells8_len]; omega) HCL.out (cells8_one l) hl0 (by unfold maxLen; omega) (by omega) (by simp) _ rfl ?_; intro g' cap' w' hown' hgrow hat hlt'; have HO := Lib.hid (row_more (c := c) hown' HB1.out); have HB := Lib.hid (HBL.out.grown hgrow (by simp; have := HB1.out; omega) (fun k hk => by have : k = wr.heap.size := (Option.some.inj hk).symm; have := HB1.out; omega)); clear hown' hgrow hat hlt')
          go_roundw
          case rel => exact ⟨u / 10, c :: l, by rw [HQ.out], HN.out, HUB.out, HO.out, Or.inr ⟨g', cap', by rw [List.length_cons, Nat.add_comm], by simp⟩, HB.out⟩
          case measure => simp [RowKit.intOf]; omega
      · have hu0 : u = 0 := by omega
        subst hu0
        have hdl : decDigits u0 = l := by
          rcases hd.out with ⟨h, -⟩ | ⟨-, h⟩
          · omega
          · exact h
        have hlp : 0 < l.length := by rw [← hdl, decDigits_length]; exact nDigits_pos _
        rcases hvv.out with ⟨-, rfl⟩ | ⟨g, cap, rfl, -⟩
        · simp at hlp
        · have hrun := str_of_row hown
          have HR := Lib.hid (HRES.out.trans (congrArg (fun x => 45 :: x) hdl))
          have HB := Lib.hid hb
          clear hdl hlp hvv hown hb hd hub
          go_wp2
          go_ret
          exact ⟨by rw [HR.out]; exact congrArg (fun x => Ending.returned (.string x)) (cat_one l), HB.out⟩
  · have HRES := Lib.hid (show itoa n = decDigits u0 by unfold itoa; rw [if_neg hneg, show n.toNat = u0 by omega])
    have hw : IntKind.u64.wrap n = (u0 : Int) := by
      rw [wrap_u64]; omega
    clear hu0 hupos
    go_enter Tryd.func43, Tryd.ntmps43
    go_wp2
    go_loopw [3, 4] (fun u3 v wr => ∃ (u : Nat) (l : List UInt8), u3 = .int .u64 u ∧ Hid (DigInv u0 u l) ∧ Hid (u ≤ 9223372036854775808) ∧ wr.ownsRow w.heap.size 5 1 v l.length (cells8 l) ∧ Hid ((v = .slice none 0 0 ∧ l = []) ∨ (∃ g cap, v = .slice (some ⟨g, 0, none⟩) l.length cap ∧ 0 < l.length)) ∧ Below w.heap.size w wr) (fun u3 _ _ => (RowKit.intOf u3).toNat)
    case atStart => exact ⟨u0, [], rfl, HD0.out, HU0.out, World.ownsRow_nil _ _ _ _, Or.inl ⟨rfl, rfl⟩, Below.refl _ _⟩
    case round =>
      obtain ⟨u, l, rfl, hd, hub, hown, hvv, hb⟩ := hrel
      have hub0 : (u : Int) ≤ 9223372036854775808 := by have := hub.out; omega
      have hlen := digInv_len hd.out H64.out
      by_cases hu : 0 < u
      · have HN := Lib.hid (digInv_step hd.out hu)
        have hu' : 0 < (u : Int) := by omega
        obtain ⟨c, hc⟩ : ∃ c, UInt8.ofNat (48 + u % 10) = c := ⟨_, rfl⟩
        have hcn : (c.toNat : Int) = 48 + (u : Int) % 10 := by rw [← hc, ofNat_toNat _ (by omega)]; omega
        rw [hc] at HN
        have hcw : IntKind.u8.wrap (48 + (u : Int) % 10) = (c.toNat : Int) := by rw [hcn]; exact IntWalk.u8_in _ (by omega)
        have HUB := Lib.hid (show u / 10 ≤ 9223372036854775808 by omega)
        have hq : ((u / 10 : Nat) : Int) = (u : Int) / 10 := by omega
        have HQ := Lib.hid hq
        clear hc hcn hd hub hq
        have hB1 : w.heap.size ≤ wr.heap.size := hb.size
        have hlit := World.ownsRow_lit (base := wr.heap.size) (e := 5) (size := 1) wr #[.int .u8 (c.toNat : Int)] 1 (Nat.le_refl _) (by unfold maxLen; omega) rfl
        have hbl : Below w.heap.size w (wr.alloc (.cells #[.int .u8 (c.toNat : Int)] 5)) := hb.alloc hB1 _
        have hown1 := hown.alloc (.cells #[.int .u8 (c.toNat : Int)] 5)
        rcases hvv.out with ⟨rfl, rfl⟩ | ⟨g, cap, rfl, hl0⟩
        · clear hvv hown1
          have HLIT := Lib.hid hlit
          have HBL := Lib.hid hbl
          clear hlit hbl hb hown
          go_wp2_with (at_builtin; refine wpList_append_own_none rfl _ _ 49 rfl wr.heap.size 5 i0 1 Tryd.underlying49 HI.out.1 _ 1 _ rfl HLIT.out rfl ?_)
          go_roundw
          case rel => exact ⟨u / 10, [c], by rw [HQ.out], HN.out, HUB.out, row_base HLIT.out hB1, Or.inr ⟨_, _, rfl, by simp⟩, HBL.out⟩
          case measure => simp [RowKit.intOf]; omega
        · have hcl := World.ownsRow.cells (hown.alloc (.cells #[.int .u8 (c.toNat : Int)] 5)) (g := g) rfl
          have HLIT := Lib.hid hlit
          have HBL := Lib.hid hbl
          have HCL := Lib.hid hcl
          have HB1 := Lib.hid hB1
          clear hlit hbl hb hown hown1 hcl hB1 hvv
          go_wp2_with (at_builtin; refine wpList_append_lies _ rfl _ _ 49 rfl wr.heap.size 5 i0 (.int .u8 0) 1 1 Tryd.underlying49 HI.out.1 HI.out.2.1 HI.out.2.2.1 HI.out.2.2.2 rfl (by decide) (.slice (some ⟨wr.heap.size, 0, none⟩) 1 1) 1 _ rfl HLIT.out ⟨g, 0, none⟩ l.length cap (cells8 l) rfl (by rw [cells8_len]; omega) HCL.out (cells8_one l) hl0 (by unfold maxLen; omega) (by omega) (by simp) _ rfl ?_; intro g' cap' w' hown' hgrow hat hlt'; have HO := Lib.hid (row_more (c := c) hown' HB1.out); have HB := Lib.hid (HBL.out.grown hgrow (by simp; have := HB1.out; omega) (fun k hk => by have : k = wr.heap.size := (Option.some.inj hk).symm; have := HB1.out; omega)); clear hown' hgrow hat hlt')
          go_roundw
          case rel => exact ⟨u / 10, c :: l, by rw [HQ.out], HN.out, HUB.out, HO.out, Or.inr ⟨g', cap', by rw [List.length_cons, Nat.add_comm], by simp⟩, HB.out⟩
          case measure => simp [RowKit.intOf]; omega
      · have hu0 : u = 0 := by omega
        subst hu0
        have hdl : decDigits u0 = l := by
          rcases hd.out with ⟨h, -⟩ | ⟨-, h⟩
          · omega
          · exact h
        have hlp : 0 < l.length := by rw [← hdl, decDigits_length]; exact nDigits_pos _
        rcases hvv.out with ⟨-, rfl⟩ | ⟨g, cap, rfl, -⟩
        · simp at hlp
        · have hrun := str_of_row hown
          have HR := Lib.hid (HRES.out.trans hdl)
          have HB := Lib.hid hb
          clear hdl hlp hvv hown hb hd hub
          go_wp2
          go_ret
          exact ⟨by rw [HR.out]; rfl, HB.out⟩
end Go.Proofs.YtdhfbphliejcdaaDoor

namespace Go.Proofs.YtdhfbphliejcdaaDoor.Dv
open Go.RowKit

def Weighed (t : Tm) (most deep : Int) (w : World) (e : Ending) (w' : World) : Prop :=
  ∃ r : Int, e = .returned (.int .i64 r) ∧ 1 ≤ r ∧ r ≤ most + 1 ∧ (r ≤ most → r = t.size ∧ (t.deep : Int) ≤ deep + 1) ∧ Below w.heap.size w w'

set_option maxHeartbeats 800000 in
theorem dweigh_any (t : Tm) : ∀ (w : World) (s : Value) (most deep : Int), Lies w t.kids s → 0 ≤ most → most ≤ 100000 → -1 ≤ deep → deep ≤ 100000 →
    Calls Tryd.prog 20 #[tv t s, .int .i64 most, .int .i64 deep] w (Weighed t most deep w) := by
  induction t using Tm.ind with
  | h t ih =>
    intro w s most deep hl h0 h1 h2 h3
    obtain ⟨a, cap, S, rfl, hc, hm, hf, hn, hk⟩ := hl.out
    unfold tv
    have hsz := t.size_eq
    have hdp := t.deep_eq
    unfold maxLen at hm
    have IH := Lib.hid ih
    have HN := Lib.hid hn
    have HK := Lib.hid hk
    have HSZ := Lib.hid hsz
    have HDP := Lib.hid hdp
    clear ih hn hk hf hl hsz hdp
    by_cases hd : deep < 0
    · go_enter Tryd.func20, Tryd.ntmps20
      go_wp2
      go_ret
      exact ⟨most + 1, rfl, by omega, by omega, fun h => by omega, (Below.refl _ _).alloc (Nat.le_refl _) _⟩
    go_enter Tryd.func20, Tryd.ntmps20
    have hcell : ∀ (wr : World), Below (w.heap.size + 1) (w.alloc (.cells #[.int .i64 t.k, .int .i64 t.i, .slice a t.kids.length cap] 24)) wr → wr.cell? ⟨w.heap.size, 2, none⟩ = some (.slice a t.kids.length cap) := fun wr h => by
      rw [h.cell (p := ⟨w.heap.size, 2, none⟩) (by exact Nat.lt_succ_self _), World.cell?_alloc_at _ _ _ _ rfl]; rfl
    have HC := Lib.hid hcell
    clear hcell
    go_wp2
    go_loopw [7, 8] (fun nv iv wr => ∃ (k : Nat) (n : Int), k ≤ t.kids.length ∧ iv = .int .i64 k ∧ nv = .int .i64 n ∧ 1 ≤ n ∧ n ≤ most + 1 ∧ Hid (n ≤ most → n = ((1 + sizes (t.kids.take k) : Nat) : Int) ∧ (deeps (t.kids.take k) : Int) ≤ deep) ∧
        Below (w.heap.size + 1) (w.alloc (.cells #[.int .i64 t.k, .int .i64 t.i, .slice a t.kids.length cap] 24)) wr) (fun _ i _ => t.kids.length - (intOf i).toNat)
    case atStart => exact ⟨0, 1, Nat.zero_le _, rfl, rfl, by omega, by omega, fun _ => ⟨by simp [sizes], by simp [deeps]; omega⟩, Below.refl _ _⟩
    case round =>
      obtain ⟨k, n, hk, rfl, rfl, hn1, hn2, hrel, hb⟩ := hrel
      have hc4 := HC.out wr hb
      have hb0 : Below w.heap.size w wr := ((Below.refl _ _).alloc (Nat.le_refl _) _).trans (hb.mono (by omega))
      by_cases hlt : k < t.kids.length
      · by_cases hnm : n ≤ most
        · obtain ⟨b, o, rfl, hx⟩ := HN.out k hlt
          have hy := hx.below hb0 hx.lt
          obtain ⟨c0, c1, c2⟩ := hy
          have hq := HK.out k hlt
          obtain ⟨a', cap', S', hS, -⟩ := hq.out
          rw [hS] at c2 hq
          have HQ := Lib.hid (hq.keep hb0)
          clear hS hq
          have HM := Lib.hid (List.getElem_mem hlt)
          have HT := Lib.hid (sizes_take t.kids k hlt)
          have HT2 := Lib.hid (deeps_take t.kids k hlt)
          go_wp2_with fail
          refine (IH.out _ HM.out _ _ _ _ HQ.out (by omega) (by omega) (by omega) (by omega)).mono ?_
          rintro e w' ⟨r, rfl, hr1, hr2, hr3, hb'⟩
          have HR3 := Lib.hid hr3
          have HB' := hb.trans (hb'.mono (by have := hb.size; simpa using this))
          clear hb' hb hb0 hc4 hr3
          go_wp2
          go_roundw
          case rel =>
            refine ⟨k + 1, n + r, by omega, by go_num, rfl, by omega, by omega, ?_, HB'⟩
            intro hle
            obtain ⟨e1, e2⟩ := hrel.out hnm
            obtain ⟨e3, e4⟩ := HR3.out (by omega)
            rw [HT.out, HT2.out, e1, e3]
            exact ⟨by simp; omega, by omega⟩
          case measure => simp [intOf]; omega
        · go_wp2
          go_ret
          exact ⟨n, rfl, by omega, by omega, fun h => absurd h (by omega), hb0⟩
      · have : k = t.kids.length := by omega
        subst this
        go_wp2
        all_goals go_ret
        all_goals
          refine ⟨n, rfl, by omega, by omega, fun h => ?_, hb0⟩
          obtain ⟨e1, e2⟩ := hrel.out h
          rw [List.take_length] at e1 e2
          rw [HSZ.out, HDP.out]
          exact ⟨by rw [e1]; simp; omega, by omega⟩

end Go.Proofs.YtdhfbphliejcdaaDoor.Dv

namespace Go.Proofs.YtdhfbphliejcdaaDoor.Dv
open Go.RowKit

/-- The four results as they stand. -/
structure Four (B : Nat) (w : World) : Prop where
  f : ∃ v0 v1 v2 v3, w.heap[B]? = some (.cells #[v0, v1, v2, v3] 26 (0, 0))
  e : ∃ x, w.heap[B + 1]? = some (.cells #[x] 34 (0, 0))
  a : ∃ x, w.heap[B + 2]? = some (.cells #[x] 3 (0, 0))
  s : ∃ x, w.heap[B + 3]? = some (.cells #[x] 9 (0, 0))
end Go.Proofs.YtdhfbphliejcdaaDoor.Dv

namespace Go.Proofs.YtdhfbphliejcdaaDoor.Dv
open Go.RowKit

theorem Four.keep {B : Nat} {w w' : World} (h : Four B w) (hb : Below (B + 4) w w') : Four B w' := by
  obtain ⟨⟨v0, v1, v2, v3, h0⟩, ⟨x, h1⟩, ⟨y, h2⟩, ⟨z, h3⟩⟩ := h
  exact ⟨⟨v0, v1, v2, v3, (hb.block _ (by omega)).trans h0⟩, ⟨x, (hb.block _ (by omega)).trans h1⟩, ⟨y, (hb.block _ (by omega)).trans h2⟩, ⟨z, (hb.block _ (by omega)).trans h3⟩⟩
theorem Four.put {B : Nat} {w : World} (h : Four B w) (v0 v1 v2 v3 : Value) : Four B (four w B v0 v1 v2 v3) := by
  obtain ⟨⟨z0, z1, z2, z3, h0⟩, ⟨x, h1⟩, ⟨y, h2⟩, ⟨z, h3⟩⟩ := h
  have c4 : w.grownBy (four w B v0 v1 v2 v3) (some B) := (((setD_grown _ _ _ _).trans (setD_grown _ _ _ _)).trans (setD_grown _ _ _ _)).trans (setD_grown _ _ _ _)
  exact ⟨⟨_, _, _, _, four_set h0⟩, ⟨x, (c4.block _ (hltD h1) (fun e => by have := Option.some.inj e; omega)).trans h1⟩, ⟨y, (c4.block _ (hltD h2) (fun e => by have := Option.some.inj e; omega)).trans h2⟩, ⟨z, (c4.block _ (hltD h3) (fun e => by have := Option.some.inj e; omega)).trans h3⟩⟩
end Go.Proofs.YtdhfbphliejcdaaDoor.Dv

namespace Go.Proofs.YtdhfbphliejcdaaDoor.Dv
open Go.RowKit

set_option maxHeartbeats 2000000 in
theorem drights_any (l : List Tm) (w : World) (s : Value) (hl : Lies w l s) : Calls Tryd.prog 13 #[s] w fun e w' => e = .returned (.bool (rights l)) ∧ Below w.heap.size w w' := by
  obtain ⟨a, cap, S, rfl, hc, hm, hf, hn, hk⟩ := hl.out
  unfold maxLen at hm
  have HN := Lib.hid hn
  have HK := Lib.hid hk
  clear hn hk hf hl
  go_enter Tryd.func13, Tryd.ntmps13
  go_wp2_with fail
  go_loopw [3] (fun iv wr => ∃ k : Nat, k ≤ l.length ∧ iv = .int .i64 k ∧ Hid (rights (l.take k) = true) ∧ Below w.heap.size w wr) (fun iv _ => l.length - (intOf iv).toNat)
  case atStart => exact ⟨0, Nat.zero_le _, rfl, rfl, Below.refl _ _⟩
  case round =>
    obtain ⟨k, hkl, rfl, hg, hb⟩ := hrel
    by_cases hlt : k < l.length
    · obtain ⟨b, o, rfl, hx⟩ := HN.out k hlt
      obtain ⟨c0, c1, c2⟩ := hx.below hb hx.lt
      have hq := (HK.out k hlt).keep hb
      obtain ⟨a', cap', S', hS, -⟩ := hq.out
      rw [hS] at c2 hq
      have HC := Lib.hid (drefright_any l[k] _ _ hq)
      have HTK := Lib.hid (rights_take l k hlt)
      have HO := Lib.hid (fun h => rights_of l k hlt h)
      generalize l[k] = x at c0 c1 c2 HC HTK HO
      clear hS hq hx
      go_wp2_with fail
      refine HC.out.mono ?_
      rintro e w2 ⟨rfl, hb2⟩
      have HB := Lib.hid (hb.trans (hb2.mono hb.size))
      clear hb hb2
      cases hr : x.rightB with
      | false =>
        have h0 := HO.out hr
        go_wp2
        go_ret
        exact ⟨by rw [h0]; rfl, HB.out⟩
      | true =>
        have hw1 : IntKind.i64.wrap ((k : Int) + 1) = (k : Int) + 1 := IntWalk.i64_in _ (by omega)
        go_wp2_with fail
        go_roundw
        case rel => exact ⟨k + 1, hlt, by go_num, by show _ = true; rw [HTK.out, hg.out, hr]; rfl, HB.out⟩
        case measure => simp [intOf]; omega
    · have hk2 : k = l.length := by omega
      have HGG := Lib.hid (show rights l = true by have := hg.out; rwa [hk2, List.take_length] at this)
      subst hk2
      go_wp2
      go_ret
      exact ⟨by rw [HGG.out]; rfl, hb⟩
end Go.Proofs.YtdhfbphliejcdaaDoor.Dv

namespace Go.Proofs.YtdhfbphliejcdaaDoor.Dv
open Go.RowKit

theorem sp32 : (⟨#[32]⟩ : ByteArray) = ⟨[(32 : UInt8)].toArray⟩ := rfl
theorem sp40 : (⟨#[40]⟩ : ByteArray) = ⟨[(40 : UInt8)].toArray⟩ := rfl
theorem sp41 : (⟨#[41]⟩ : ByteArray) = ⟨[(41 : UInt8)].toArray⟩ := rfl
theorem sp4132 : (⟨#[41, 32]⟩ : ByteArray) = ⟨[(41 : UInt8), 32].toArray⟩ := rfl
theorem sp4110 : (⟨#[41, 10]⟩ : ByteArray) = ⟨[(41 : UInt8), 10].toArray⟩ := rfl
def sE (x : List UInt8) : Value := .string ⟨x.toArray⟩
set_option maxHeartbeats 4000000 in
set_option maxRecDepth 100000 in
theorem refshow_any (t : Tm) : ∀ (w : World) (s : Value), Lies w t.kids s → t.rightB = true → t.size ≤ 1000000 →
    Calls Tryd.prog 24 #[tv t s] w fun e w' => e = .returned (.string ⟨(t.sh).toArray⟩) ∧ Below w.heap.size w w' := by
  induction t using Tm.ind with
  | h t ih =>
    intro w s hl hr hz
    obtain ⟨a, cap, S, rfl, hc, hmx, hfi, hn, hk⟩ := hl.out
    obtain ⟨k1, hlen, i0, i1, hrk⟩ := dright_of hr
    have hi := most_num i1
    have HX := Lib.hid t.sh_eq
    have HWD := Lib.hid (word_of t.k)
    have HWL := Lib.hid (word_read k1).2.2.1
    have HIL := Lib.hid (Lib.itoa_length_le t.i (by omega) (by omega))
    have HNL := Lib.hid (show (numL t.k t.i).length ≤ 22 from by
      have := HIL.out
      unfold numL
      split
      · simp only [List.length_cons]; omega
      · simp)
    have HH := Lib.hid (held_start w t (.slice a t.kids.length cap))
    have HSL := Lib.hid (shs_len t.kids (fun x hx => sh_len x (rights_mem hrk x hx)))
    have HSZ := Lib.hid t.size_eq
    have HN := Lib.hid hn
    have HK := Lib.hid hk
    have HR := Lib.hid (rights_mem hrk)
    have HRK := Lib.hid hrk
    have IH := Lib.hid ih
    have hI : I64 t.i := by unfold I64; omega
    clear hn hk hl ih hfi hrk hlen k1 hr
    unfold tv
    unfold maxLen at hmx
    go_enter Tryd.func24, Tryd.ntmps24
    go_upto_region 1 with fail
    obtain ⟨wB, hwB⟩ : ∃ wB, wB = w.alloc (.cells #[.int .i64 t.k, .int .i64 t.i, .slice a t.kids.length cap] 24) := ⟨_, rfl⟩
    rw [← hwB] at HH
    rw [← hwB]
    clear hwB
    go_cut [3] (fun s3 wx => s3 = sE ([40] ++ wordL t.k) ∧ Hid (Held w t (.slice a t.kids.length cap) wx))
    case first =>
      obtain ⟨d0, d1, d2⟩ := held_cells HH.out
      go_wp2_with fail
      refine (drefword_any t.k _).mono ?_
      rintro e w2 ⟨rfl, hb2⟩
      rw [HWD.out]
      have H2 := Lib.hid (held_call HH.out hb2)
      clear hb2 d0 d1 d2
      go_wp2_with fail
      · exfalso; have := HWL.out; omega
      rw [sp40, str_add]
      go_wp2_with fail
      go_meet
      case rel => exact ⟨rfl, H2⟩
    case rest =>
    obtain ⟨rfl, hcut⟩ := hcut
    have H1 := hcut
    clear hcut HH
    go_step
    go_step
    go_cut [3] (fun s3 wx => s3 = sE ([40] ++ wordL t.k ++ numL t.k t.i) ∧ Hid (Held w t (.slice a t.kids.length cap) wx))
    case first =>
      obtain ⟨d0, d1, d2⟩ := held_cells H1.out
      cases hnb : numberedB t.k with
      | true =>
        have HNM := Lib.hid (show numL t.k t.i = 32 :: Lib.itoa t.i from if_pos (by unfold numberedB at hnb; simpa using hnb))
        unfold sE
        go_wp2_with fail
        refine (numbered_any t.k _).mono ?_
        rintro e w2 ⟨rfl, hw2⟩
        obtain rfl := hw2.symm
        rw [hnb]
        clear hnb
        go_wp2_with fail
        · exfalso; have := HWL.out; first | omega | (simp at this; done) | (simp at this; omega)
        refine (refput_any t.i _ hI).mono ?_
        rintro e w3 ⟨rfl, hb3⟩
        have H3 := Lib.hid (held_call H1.out hb3)
        clear hb3 d0 d1 d2
        go_wp2_with fail
        · exfalso; have := HWL.out; have := HIL.out; first | omega | (simp at this; done) | (simp at this; omega)
        rw [sp32, str_add, str_add]
        go_wp2_with fail
        go_meet
        case rel => exact ⟨by unfold sE; rw [HNM.out]; simp, H3⟩
      | false =>
        have HNM := Lib.hid (show numL t.k t.i = [] from if_neg (by unfold numberedB at hnb; simpa using hnb))
        go_wp2_with fail
        refine (numbered_any t.k _).mono ?_
        rintro e w2 ⟨rfl, hw2⟩
        obtain rfl := hw2.symm
        rw [hnb]
        clear hnb
        go_wp2_with fail
        go_meet
        case rel => exact ⟨by rw [HNM.out, List.append_nil]; rfl, H1⟩
    case rest =>
    obtain ⟨rfl, hcut⟩ := hcut
    have H2 := hcut
    clear hcut H1
    go_wp2_with fail
    go_loopw [3, 4] (fun sv iv wv => ∃ q : Nat, q ≤ t.kids.length ∧ iv = .int .i64 q ∧ sv = sE ([40] ++ wordL t.k ++ numL t.k t.i ++ shs (t.kids.take q)) ∧ Hid (Held w t (.slice a t.kids.length cap) wv)) (fun _ iv _ => t.kids.length - (intOf iv).toNat)
    case atStart => exact ⟨0, Nat.zero_le _, rfl, by simp only [List.take_zero, shs, List.append_nil], H2⟩
    case round =>
      obtain ⟨q, hq, rfl, rfl, hv⟩ := hrel
      have HV := Lib.hid hv.out
      clear hv H2
      obtain ⟨d0, d1, d2⟩ := held_cells HV.out
      by_cases hlt : q < t.kids.length
      · obtain ⟨bn, oo, rfl, hx⟩ := HN.out q hlt
        obtain ⟨c0, c1, c2⟩ := hx.below (held_below HV.out) hx.lt
        have hq4 := HK.out q hlt
        obtain ⟨a', cap', S', hS, -⟩ := hq4.out
        rw [hS] at c2 hq4
        have HQ := Lib.hid (held_lies HV.out hq4)
        have HM := Lib.hid (List.getElem_mem hlt)
        have HTL := Lib.hid (take_len HRK.out q hlt)
        have HTK := Lib.hid (shs_take t.kids q hlt)
        have HKL := Lib.hid (sh_len t.kids[q] (HR.out _ (List.getElem_mem hlt)))
        have hkz : t.kids[q].size ≤ 1000000 := by have := shsize_mem (List.getElem_mem hlt); have := HSZ.out; omega
        have hwq : IntKind.i64.wrap ((q : Int) + 1) = (q : Int) + 1 := IntWalk.i64_in _ (by omega)
        obtain ⟨pre, hpre⟩ : ∃ pre, [40] ++ wordL t.k ++ numL t.k t.i ++ shs (t.kids.take q) = pre := ⟨_, rfl⟩
        have HPL := Lib.hid (show pre.length + 32 * t.kids[q].size ≤ 40000000 from by
          rw [← hpre]
          have := HWL.out; have := HNL.out; have := HTL.out; have := HSZ.out
          simp only [List.length_append, List.length_cons, List.length_nil]; omega)
        have HPRE := Lib.hid (show [40] ++ wordL t.k ++ numL t.k t.i ++ shs (t.kids.take (q + 1)) = pre ++ [32] ++ t.kids[q].sh by rw [HTK.out, ← hpre]; simp)
        rw [hpre]
        unfold sE
        clear hS hq4 hx hpre
        go_wp2_with fail
        · exfalso; have := HPL.out; omega
        refine (IH.out _ HM.out _ _ HQ.out (HR.out _ HM.out) hkz).mono ?_
        rintro e w8 ⟨rfl, hb8⟩
        have H8 := Lib.hid (held_call HV.out hb8)
        clear hb8 c0 c1 c2 d0 d1 d2
        go_wp2_with fail
        · exfalso; have := HPL.out; have := HKL.out; first | omega | (simp at this; done) | (simp at this; omega)
        rw [sp32, str_add, str_add]
        go_wp2_with fail
        go_roundw
        case rel => exact ⟨q + 1, hlt, by go_num, by rw [HPRE.out] <;> rfl, H8⟩
        case measure => simp [intOf]; omega
      · obtain rfl : q = t.kids.length := by omega
        obtain ⟨pre, hpre⟩ : ∃ pre, [40] ++ wordL t.k ++ numL t.k t.i ++ shs (t.kids.take t.kids.length) = pre := ⟨_, rfl⟩
        have HPL := Lib.hid (show pre.length ≤ 40000000 from by
          rw [← hpre, List.take_length]
          have := HWL.out; have := HNL.out; have := HSL.out; have := HSZ.out
          simp only [List.length_append, List.length_cons, List.length_nil]; omega)
        have HPRE := Lib.hid (show t.sh = pre ++ [41] by rw [HX.out, ← hpre, List.take_length]; simp)
        rw [hpre]
        unfold sE
        clear hpre
        go_wp2_with fail
        · exfalso; have := HPL.out; omega
        rw [sp41, str_add]
        go_wp2
        go_ret
        exact ⟨by first | (rw [HPRE.out]; done) | (rw [HPRE.out]; rfl), held_below HV.out⟩
set_option maxHeartbeats 4000000 in
set_option maxRecDepth 100000 in
theorem refShow_any (t : Tm) (w : World) (s : Value) (hl : Lies w t.kids s) (hz : t.size ≤ 1000000) :
    Calls Tryd.prog 9 #[tv t s] w fun e w' => e = .returned (.string ⟨(shownD t).toArray⟩) ∧ Below w.heap.size w w' := by
  obtain ⟨a, cap, S, rfl, -⟩ := hl.out
  have HH := Lib.hid (held_start w t (.slice a t.kids.length cap))
  have HL := Lib.hid (hl.keep ((Below.refl _ _).alloc (Nat.le_refl _) (.cells #[.int .i64 t.k, .int .i64 t.i, .slice a t.kids.length cap] 24)))
  clear hl
  unfold tv
  go_enter Tryd.func9, Tryd.ntmps9
  cases hr : t.rightB with
  | false =>
    go_wp2_with fail
    refine (drefright_any t _ _ HL.out).mono ?_
    rintro e w1 ⟨rfl, hb1⟩
    rw [hr]
    have HB1 := Lib.hid (held_below (held_call HH.out hb1))
    clear hb1
    go_wp2
    go_ret
    exact ⟨by unfold shownD; rw [if_neg (by rw [hr]; decide)]; rfl, HB1.out⟩
  | true =>
    go_wp2_with fail
    refine (drefright_any t _ _ HL.out).mono ?_
    rintro e w1 ⟨rfl, hb1⟩
    rw [hr]
    have H1 := Lib.hid (held_call HH.out hb1)
    have HL1 := Lib.hid (HL.out.keep hb1)
    obtain ⟨d0, d1, d2⟩ := held_cells H1.out
    clear hb1
    go_wp2_with fail
    refine (refshow_any t _ _ HL1.out hr hz).mono ?_
    rintro e w2 ⟨rfl, hb2⟩
    have H2 := Lib.hid (held_below (held_call H1.out hb2))
    clear hb2
    go_wp2
    go_ret
    exact ⟨by unfold shownD; rw [if_pos hr]; rfl, H2.out⟩
set_option maxHeartbeats 4000000 in
set_option maxRecDepth 100000 in
theorem refShowFile_any (c : List Tm) (t : Tm) (w : World) (cv s : Value) (hc : Lies w c cv) (hl : Lies w t.kids s) (hz : sizes c + t.size ≤ 1000000) :
    Calls Tryd.prog 11 #[fv cv t s] w fun e w' => e = .returned (.string ⟨(shownF c t).toArray⟩) ∧ Below w.heap.size w w' := by
  obtain ⟨a1, c1, S1, rfl, hcc, hcm, -, hn, hk⟩ := hc.out
  obtain ⟨a2, c2, S2, rfl, -⟩ := hl.out
  have HH := Lib.hid (show HeldF w (.slice a1 c.length c1) t.k t.i (.slice a2 t.kids.length c2) (w.alloc (fileO (.slice a1 c.length c1) t.k t.i (.slice a2 t.kids.length c2))) from Below.refl _ _)
  have HC := Lib.hid (heldF_lies HH.out hc)
  have HL := Lib.hid (heldF_lies HH.out hl)
  have HL0 := Lib.hid hl
  have HN := Lib.hid hn
  have HK := Lib.hid hk
  unfold maxLen at hcm
  clear hl hc hn hk
  unfold fv
  go_enter Tryd.func11, Tryd.ntmps11
  go_upto_region 1 with fail
  obtain ⟨wB, hwB⟩ : ∃ wB, wB = w.alloc (fileO (.slice a1 c.length c1) t.k t.i (.slice a2 t.kids.length c2)) := ⟨_, rfl⟩
  rw [← hwB] at HH HC HL
  rw [← hwB]
  clear hwB
  obtain ⟨y0, y1, y2, y3⟩ := four_cells (heldF_at HH.out)
  cases hrc : rights c with
  | false =>
    go_wp2_with fail
    refine (drights_any c _ _ HC.out).mono ?_
    rintro e w1 ⟨rfl, hb1⟩
    rw [hrc]
    have HB1 := Lib.hid (heldF_below (heldF_call HH.out hb1))
    clear hb1
    go_wp2
    go_ret
    exact ⟨by unfold shownF; rw [if_neg (by rw [hrc]; simp)]; rfl, HB1.out⟩
  | true =>
    have HRC := Lib.hid hrc
    go_wp2_with fail
    refine (drights_any c _ _ HC.out).mono ?_
    rintro e w1 ⟨rfl, hb1⟩
    rw [hrc]
    have H1 := Lib.hid (heldF_call HH.out hb1)
    have HL1 := Lib.hid (HL.out.keep hb1)
    clear hb1 y0 y1 y2 y3 HH HC HL hrc
    obtain ⟨y0, y1, y2, y3⟩ := four_cells (heldF_at H1.out)
    cases hr : t.rightB with
    | false =>
      go_wp2_with fail
      refine (drefright_any t _ _ HL1.out).mono ?_
      rintro e w2 ⟨rfl, hb2⟩
      rw [hr]
      have HB2 := Lib.hid (heldF_below (heldF_call H1.out hb2))
      clear hb2
      go_wp2
      go_ret
      exact ⟨by unfold shownF; rw [if_neg (by rw [hr]; simp)]; rfl, HB2.out⟩
    | true =>
      have HRT := Lib.hid hr
      go_wp2_with fail
      refine (drefright_any t _ _ HL1.out).mono ?_
      rintro e w2 ⟨rfl, hb2⟩
      rw [hr]
      have H2 := Lib.hid (heldF_call H1.out hb2)
      clear hb2 y0 y1 y2 y3 H1 HL1 hr
      go_wp2_with fail
      go_loopw [3, 4] (fun sv iv wv => ∃ q : Nat, q ≤ c.length ∧ iv = .int .i64 q ∧ sv = sE (headF ++ ctxL (c.take q)) ∧ Hid (HeldF w (.slice a1 c.length c1) t.k t.i (.slice a2 t.kids.length c2) wv)) (fun _ iv _ => c.length - (intOf iv).toNat)
      case atStart => exact ⟨0, Nat.zero_le _, rfl, by simp only [List.take_zero, ctxL, List.append_nil]; rfl, H2⟩
      case round =>
        obtain ⟨q, hq, rfl, rfl, hv⟩ := hrel
        have HV := Lib.hid hv.out
        clear hv H2
        obtain ⟨y0, y1, y2, y3⟩ := four_cells (heldF_at HV.out)
        by_cases hlt : q < c.length
        · obtain ⟨bn, oo, rfl, hx⟩ := HN.out q hlt
          obtain ⟨e0, e1, e2⟩ := hx.below (heldF_below HV.out) hx.lt
          have hq4 := HK.out q hlt
          obtain ⟨a', cap', S', hS, -⟩ := hq4.out
          rw [hS] at e2 hq4
          have HQ := Lib.hid (heldF_lies HV.out hq4)
          have HRQ := Lib.hid (rights_mem HRC.out _ (List.getElem_mem hlt))
          have HKL := Lib.hid (sh_len c[q] HRQ.out)
          have HRM := Lib.hid (ctx_room (l := c) (q := q) (by
            have : ∀ l : List Tm, rights l = true → ∀ q, rights (l.take q) = true := by
              intro l
              induction l with
              | nil => intro _ q; simp [rights]
              | cons x r ihr =>
                intro h q
                simp only [rights, Bool.and_eq_true] at h
                cases q with
                | zero => rfl
                | succ q => simp only [List.take_succ_cons, rights, Bool.and_eq_true]; exact ⟨h.1, ihr h.2 q⟩
            exact this c HRC.out q) hlt)
          have HTK := Lib.hid (ctx_take c q hlt)
          have hkz : c[q].size ≤ 1000000 := by have := shsize_mem (List.getElem_mem hlt); omega
          have hwq : IntKind.i64.wrap ((q : Int) + 1) = (q : Int) + 1 := IntWalk.i64_in _ (by omega)
          obtain ⟨pre, hpre⟩ : ∃ pre, headF ++ ctxL (c.take q) = pre := ⟨_, rfl⟩
          have HPL := Lib.hid (show pre.length + 32 * c[q].size ≤ 40000000 from by
            rw [← hpre]
            have := HRM.out
            simp only [List.length_append, headF, List.length_cons, List.length_nil]; omega)
          rw [hpre]
          unfold sE
          clear hS hq4 hx
          by_cases hq0 : 0 < q
          · have hq0' : (0 : Int) < (q : Int) := by omega
            have hqd : decide ((0 : Int) < (q : Int)) = true := decide_eq_true hq0'
            have HPRE := Lib.hid (show headF ++ ctxL (c.take (q + 1)) = pre ++ [32] ++ (c[q]).sh by rw [HTK.out, if_pos hq0, ← hpre]; simp)
            clear hq0 hpre
            go_wp2_with fail
            · exfalso; have := HPL.out; omega
            refine (refshow_any c[q] _ _ HQ.out HRQ.out hkz).mono ?_
            rintro e w8 ⟨rfl, hb8⟩
            have H8 := Lib.hid (heldF_call HV.out hb8)
            clear hb8 e0 e1 e2 y0 y1 y2 y3
            go_wp2_with fail
            · exfalso; have := HPL.out; have := HKL.out; first | omega | (simp at this; done) | (simp at this; omega)
            rw [sp32, str_add, str_add]
            go_wp2_with fail
            go_roundw
            case rel => exact ⟨q + 1, hlt, by go_num, by rw [HPRE.out] <;> rfl, H8⟩
            case measure => simp [intOf]; omega
          · obtain rfl : q = 0 := by omega
            have hqd : decide ((0 : Int) < ((0 : Nat) : Int)) = false := rfl
            simp only [Nat.zero_mul, Nat.add_zero] at e0 e1 e2
            have HPRE := Lib.hid (show headF ++ ctxL (c.take (0 + 1)) = pre ++ (c[0]).sh by rw [HTK.out, if_neg (by omega), ← hpre]; simp)
            clear hq0 hpre
            go_wp2_with fail
            refine (refshow_any c[0] _ _ HQ.out HRQ.out hkz).mono ?_
            rintro e w8 ⟨rfl, hb8⟩
            have H8 := Lib.hid (heldF_call HV.out hb8)
            clear hb8 e0 e1 e2 y0 y1 y2 y3
            go_wp2_with fail
            · exfalso; have := HPL.out; have := HKL.out; first | omega | (simp at this; done) | (simp at this; omega)
            rw [str_add]
            go_wp2_with fail
            go_roundw
            case rel => exact ⟨0 + 1, hlt, by go_num, by rw [HPRE.out] <;> rfl, H8⟩
            case measure => simp [intOf]; omega
        · obtain rfl : q = c.length := by omega
          obtain ⟨pre, hpre⟩ : ∃ pre, headF ++ ctxL (c.take c.length) = pre := ⟨_, rfl⟩
          have HLT := Lib.hid (sh_len t HRT.out)
          have HPL := Lib.hid (show pre.length ≤ 32 * sizes c + 7 from by
            rw [← hpre, List.take_length]
            have := ctx_len HRC.out
            simp only [List.length_append, headF, List.length_cons, List.length_nil]; omega)
          have HPRE := Lib.hid (show fileL c t = pre ++ [41, 32] ++ t.sh ++ [41, 10] by rw [file_text, ← hpre, List.take_length])
          have HLV := Lib.hid (heldF_lies HV.out HL0.out)
          rw [hpre]
          unfold sE
          clear hpre
          go_wp2_with fail
          · exfalso; have := HPL.out; omega
          refine (refshow_any t _ _ HLV.out HRT.out (by omega)).mono ?_
          rintro e w8 ⟨rfl, hb8⟩
          have H8 := Lib.hid (heldF_below (heldF_call HV.out hb8))
          clear hb8 y0 y1 y2 y3
          go_wp2_with fail
          · exfalso; have := HPL.out; have := HLT.out; first | omega | (simp at this; done) | (simp at this; omega)
          · exfalso; have := HPL.out; have := HLT.out; first | omega | (simp at this; done) | (simp at this; omega)
          rw [sp4132, sp4110, str_add, str_add, str_add]
          go_wp2
          go_ret
          exact ⟨by unfold shownF; rw [if_pos ⟨HRC.out, HRT.out⟩, HPRE.out]; simp only [List.append_assoc, List.cons_append, List.nil_append]; rfl, H8.out⟩
def NotGreatF (c : List Tm) (t : Tm) (most : Int) (w : World) (e : Ending) (w' : World) : Prop :=
  ∃ g : Bool, e = .returned (.bool g) ∧ (g = false → (sizes c : Int) + t.size ≤ most) ∧ Below w.heap.size w w'
set_option maxHeartbeats 2000000 in
theorem greatfile_any (c : List Tm) (t : Tm) (M : Int) (w : World) (cv s : Value) (hc : Lies w c cv) (hl : Lies w t.kids s) (h0 : 0 ≤ M) (h1 : M ≤ 100000) :
    Calls Tryd.prog 7 #[fv cv t s, .int .i64 M] w (NotGreatF c t M w) := by
  obtain ⟨a1, c1, S1, rfl, hcc, hcm, -, hn, hk⟩ := hc.out
  obtain ⟨a2, c2, S2, rfl, -⟩ := hl.out
  have HH := Lib.hid (show HeldF w (.slice a1 c.length c1) t.k t.i (.slice a2 t.kids.length c2) (w.alloc (fileO (.slice a1 c.length c1) t.k t.i (.slice a2 t.kids.length c2))) from Below.refl _ _)
  have HL := Lib.hid (heldF_lies HH.out hl)
  have HN := Lib.hid hn
  have HK := Lib.hid hk
  unfold maxLen at hcm
  clear hl hc hn hk
  unfold fv
  go_enter Tryd.func7, Tryd.ntmps7
  go_upto_region 1 with fail
  obtain ⟨wB, hwB⟩ : ∃ wB, wB = w.alloc (fileO (.slice a1 c.length c1) t.k t.i (.slice a2 t.kids.length c2)) := ⟨_, rfl⟩
  rw [← hwB] at HH HL
  rw [← hwB]
  clear hwB
  obtain ⟨y0, y1, y2, y3⟩ := four_cells (heldF_at HH.out)
  by_cases hlen : M < (c.length : Int)
  · have e1 : decide (M < (c.length : Int)) = true := decide_eq_true hlen
    go_wp2
    go_ret
    exact ⟨true, rfl, (fun h => by cases h), heldF_below HH.out⟩
  have e1 : decide (M < (c.length : Int)) = false := decide_eq_false hlen
  go_wp2_with fail
  refine (dweigh_any t _ _ _ _ HL.out h0 h1 (by omega) (by omega)).mono ?_
  rintro e w1 ⟨r, rfl, hr1, hr2, hr3, hb1⟩
  have H1 := Lib.hid (heldF_call HH.out hb1)
  have HR1 := Lib.hid hr3
  clear hb1 y0 y1 y2 y3 HH HL e1 hr3
  go_wp2_with fail
  go_loopw [5, 6] (fun nv iv wr => ∃ (k : Nat) (n : Int), k ≤ c.length ∧ iv = .int .i64 k ∧ nv = .int .i64 n ∧ 1 ≤ n ∧ n ≤ M + 1 ∧ Hid (n ≤ M → n = ((t.size + sizes (c.take k) : Nat) : Int)) ∧ Hid (HeldF w (.slice a1 c.length c1) t.k t.i (.slice a2 t.kids.length c2) wr)) (fun _ i _ => c.length - (intOf i).toNat)
  case atStart => exact ⟨0, r, Nat.zero_le _, rfl, rfl, by omega, by omega, fun h => by have := (HR1.out h).1; simp [sizes]; omega, H1⟩
  case round =>
    obtain ⟨k, n, hk, rfl, rfl, hn1, hn2, hrel, hb⟩ := hrel
    have HV := Lib.hid hb.out
    clear hb H1
    obtain ⟨y0, y1, y2, y3⟩ := four_cells (heldF_at HV.out)
    by_cases hlt : k < c.length
    · by_cases hnm : n ≤ M
      · obtain ⟨b, o, rfl, hx⟩ := HN.out k hlt
        obtain ⟨e0, e1, e2⟩ := hx.below (heldF_below HV.out) hx.lt
        have hq := HK.out k hlt
        obtain ⟨a', cap', S', hS, -⟩ := hq.out
        rw [hS] at e2 hq
        have HQ := Lib.hid (heldF_lies HV.out hq)
        clear hS hq
        have HT := Lib.hid (sizes_take c k hlt)
        have hwk : IntKind.i64.wrap ((k : Int) + 1) = (k : Int) + 1 := IntWalk.i64_in _ (by omega)
        have hws : IntKind.i64.wrap (M - n) = M - n := IntWalk.i64_in _ (by omega)
        go_wp2_with fail
        refine (dweigh_any c[k] _ _ _ _ HQ.out (by omega) (by omega) (by omega) (by omega)).mono ?_
        rintro e w' ⟨r2, rfl, hr1, hr2, hr3, hb'⟩
        have HR3 := Lib.hid hr3
        have H8 := Lib.hid (heldF_call HV.out hb')
        clear hb' hr3 e0 e1 e2 y0 y1 y2 y3
        have hwn : IntKind.i64.wrap (n + r2) = n + r2 := IntWalk.i64_in _ (by omega)
        go_wp2
        go_roundw
        case rel =>
          refine ⟨k + 1, n + r2, by omega, by go_num, rfl, by omega, by omega, ?_, H8⟩
          intro hle
          have e1 := hrel.out hnm
          obtain ⟨e3, e4⟩ := HR3.out (by omega)
          rw [HT.out, e1, e3]
          simp; omega
        case measure => simp [intOf]; omega
      · go_wp2
        go_ret
        exact ⟨_, rfl, fun h => absurd h (by simp <;> omega), heldF_below HV.out⟩
    · have : k = c.length := by omega
      subst this
      go_wp2
      all_goals go_ret
      all_goals
        refine ⟨_, rfl, fun h => ?_, heldF_below HV.out⟩
        have hle : n ≤ M := by simpa using h
        have e1 := hrel.out hle
        rw [List.take_length] at e1
        omega
end Go.Proofs.YtdhfbphliejcdaaDoor.Dv

namespace Go.Proofs.YtdhfbphliejcdaaDoor.Dv
open Go.RowKit

theorem nil_lieS (w : World) : Lies w [] (.slice none 0 0) := .mk [] none 0 (fun _ => .nilIface) (Nat.le_refl _) (by decide) (fun _ h => by cases h) (fun _ h => absurd h (by simp)) (fun _ h => absurd h (by simp))
theorem one_lieS {w : World} {g : Nat} {k i : Int} (h : w.heap[g]? = some (.cells #[.int .i64 k, .int .i64 i, .slice none 0 0] 24)) (hf : (Tm.mk k i []).fine) : Lies w [.mk k i []] (.slice (some ⟨g, 0, none⟩) 1 1) := by
  obtain ⟨c0, c1, c2⟩ := five_cells h
  refine .mk [.mk k i []] (some ⟨g, 0, none⟩) 1 (fun _ => .slice none 0 0) (Nat.le_refl _) (by decide) (fun x hx => ?_) (fun j hj => ⟨g, 0, rfl, ?_⟩) (fun j hj => ?_)
  · rcases List.mem_cons.1 hx with rfl | hx
    · exact hf
    · cases hx
  · obtain rfl : j = 0 := by simpa using hj
    exact ⟨c0, c1, c2⟩
  · obtain rfl : j = 0 := by simpa using hj
    exact nil_lieS w
theorem wk14 : shownF [.mk 1 0 []] (.mk 2 0 []) = [40, 102, 105, 108, 101, 32, 40, 40, 115, 111, 114, 116, 32, 48, 41, 41, 32, 40, 118, 97, 114, 32, 48, 41, 41, 10] := by kernel_rfl
theorem wk14b : shownD (.mk 0 0 []) = [] := by kernel_rfl
set_option maxHeartbeats 2000000 in
set_option maxRecDepth 20000 in
theorem wakes14_any (w : World) (hT : Tab w) : Calls Tryd.prog 12 #[] w fun e w' => e = .returned (.bool true) ∧ Below w.heap.size w w' := by
  have hb1 := (Below.refl w.heap.size w).alloc (Nat.le_refl _) (.cells #[.int .i64 1, .int .i64 0, .slice none 0 0] 24)
  have hb2 := hb1.alloc hb1.size (.cells #[.slice (some ⟨w.heap.size, 0, none⟩) 1 1, .int .i64 2, .int .i64 0, .slice none 0 0] 26)
  have hg : ((w.alloc (.cells #[.int .i64 1, .int .i64 0, .slice none 0 0] 24)).alloc (.cells #[.slice (some ⟨w.heap.size, 0, none⟩) 1 1, .int .i64 2, .int .i64 0, .slice none 0 0] 26)).heap[w.heap.size]? = some (.cells #[.int .i64 1, .int .i64 0, .slice none 0 0] 24) := by rw [Lib.alloc_old _ _ _ (by simp)]; exact alloc_new _ _
  have hf : ((w.alloc (.cells #[.int .i64 1, .int .i64 0, .slice none 0 0] 24)).alloc (.cells #[.slice (some ⟨w.heap.size, 0, none⟩) 1 1, .int .i64 2, .int .i64 0, .slice none 0 0] 26)).heap[w.heap.size + 1]? = some (.cells #[.slice (some ⟨w.heap.size, 0, none⟩) 1 1, .int .i64 2, .int .i64 0, .slice none 0 0] 26) := by
    have h := alloc_new (w.alloc (.cells #[.int .i64 1, .int .i64 0, .slice none 0 0] 24)) (.cells #[.slice (some ⟨w.heap.size, 0, none⟩) 1 1, .int .i64 2, .int .i64 0, .slice none 0 0] 26)
    rwa [World.size_alloc] at h
  have HC := Lib.hid (one_lieS hg ⟨by show (-9223372036854775808 : Int) ≤ 1 ∧ (1 : Int) ≤ 9223372036854775807; decide, by show (-9223372036854775808 : Int) ≤ 0 ∧ (0 : Int) ≤ 9223372036854775807; decide⟩)
  have HB := Lib.hid hb2
  have HT := Lib.hid (tab_up hT hb2)
  obtain ⟨y0, y1, y2, y3⟩ := four_cells hf
  clear hb1 hb2 hg hf hT
  go_enter Tryd.func12, Tryd.ntmps12
  go_upto_region 2 with fail
  obtain ⟨W, hW⟩ : ∃ W, W = (w.alloc (.cells #[.int .i64 1, .int .i64 0, .slice none 0 0] 24)).alloc (.cells #[.slice (some ⟨w.heap.size, 0, none⟩) 1 1, .int .i64 2, .int .i64 0, .slice none 0 0] 26) := ⟨_, rfl⟩
  rw [← hW] at y0 y1 y2 y3 HC HB HT
  rw [← hW]
  clear hW
  go_wp2_with fail
  refine (sfile_any [.mk 1 0 []] (.mk 2 0 []) W _ _ HC.out (nil_lieS _) HT.out (by decide)).mono ?_
  rintro e w1 ⟨rfl, hb1⟩
  rw [wk14]
  have HB1 := Lib.hid (HB.out.trans (hb1.mono HB.out.size))
  have HT1 := Lib.hid (tab_up HT.out hb1)
  clear hb1 y0 y1 y2 y3
  go_wp2_with fail
  refine (sderiv_any (.mk 0 0 []) w1 _ (nil_lieS _) HT1.out (by decide)).mono ?_
  rintro e w2 ⟨rfl, hb2⟩
  rw [wk14b]
  have HB2 := Lib.hid (HB1.out.trans (hb2.mono HB1.out.size))
  clear hb2
  go_wp2
  go_ret
  exact ⟨rfl, HB2.out⟩
end Go.Proofs.YtdhfbphliejcdaaDoor.Dv

namespace Go.Proofs.YtdhfbphliejcdaaDoor.Dv
open Go.RowKit

set_option maxRecDepth 20000 in
set_option maxHeartbeats 4000000 in
theorem showExact_any (c : List Tm) (t : Tm) (w : World) (cv s : Value) (hc : Lies w c cv) (hl : Lies w t.kids s) (hT : Tab w) : Calls Tryd.prog 3 #[fv cv t s] w fun e w' => e = .returned (.bool true) ∧ Below w.heap.size w w' := by
  obtain ⟨a1, c1, S1, rfl, -⟩ := hc.out
  obtain ⟨a2, c2, S2, rfl, -⟩ := hl.out
  have HH := Lib.hid (show HeldF w (.slice a1 c.length c1) t.k t.i (.slice a2 t.kids.length c2) (w.alloc (fileO (.slice a1 c.length c1) t.k t.i (.slice a2 t.kids.length c2))) from Below.refl _ _)
  have HC0 := Lib.hid hc
  have HL0 := Lib.hid hl
  have HT0 := Lib.hid hT
  clear hl hT hc
  unfold fv
  go_enter Tryd.func3, Tryd.ntmps3
  go_upto_region 1 with fail
  obtain ⟨wB, hwB⟩ : ∃ wB, wB = w.alloc (fileO (.slice a1 c.length c1) t.k t.i (.slice a2 t.kids.length c2)) := ⟨_, rfl⟩
  rw [← hwB] at HH
  rw [← hwB]
  clear hwB
  obtain ⟨y0, y1, y2, y3⟩ := four_cells (heldF_at HH.out)
  have HG := Lib.hid (greatfile_any c t 600 wB _ _ (heldF_lies HH.out HC0.out) (heldF_lies HH.out HL0.out) (by omega) (by omega))
  go_wp2_with fail
  refine HG.out.mono ?_
  rintro e w1 ⟨g, rfl, hg, hb1⟩
  have H1 := Lib.hid (heldF_call HH.out hb1)
  have HGR := Lib.hid hg
  clear hb1 hg y0 y1 y2 y3 HG HH
  cases g with
  | true =>
    go_wp2
    all_goals go_ret
    all_goals exact ⟨rfl, heldF_below H1.out⟩
  | false =>
  have hz := HGR.out rfl
  clear HGR
  have HC := Lib.hid (heldF_lies H1.out HC0.out)
  have HL := Lib.hid (heldF_lies H1.out HL0.out)
  have HT := Lib.hid (tab_up HT0.out (heldF_below H1.out))
  have HB := Lib.hid (heldF_below H1.out)
  obtain ⟨y0, y1, y2, y3⟩ := four_cells (heldF_at H1.out)
  clear H1 HC0 HL0 HT0
  generalize w1 = W at HC HL HT HB y0 y1 y2 y3 ⊢
  go_wp2_with fail
  have kq0 := cell_regrown y0
  have kq1 := cell_regrown y1
  have kq2 := cell_regrown y2
  have kq3 := cell_regrown y3
  have cD : ∀ d os, Calls Tryd.prog 8 #[tv t (.slice a2 t.kids.length c2)] (Go.Sort.grow (redrawn W d) os) fun e w'' => e = .returned (.string ⟨(shownD t).toArray⟩) ∧ ∃ p : Regrown, w'' = Go.Sort.grow (redrawn W p.d) p.os := fun d os => Calls.regrown_of ((sderiv_any t _ _ (HL.out.keep (below_regrown W d os)) (tab_up HT.out (below_regrown W d os)) (by omega)).mono fun e w' h => h)
  have cRD : ∀ d os, Calls Tryd.prog 9 #[tv t (.slice a2 t.kids.length c2)] (Go.Sort.grow (redrawn W d) os) fun e w'' => e = .returned (.string ⟨(shownD t).toArray⟩) ∧ ∃ p : Regrown, w'' = Go.Sort.grow (redrawn W p.d) p.os := fun d os => Calls.regrown_of ((refShow_any t _ _ (HL.out.keep (below_regrown W d os)) (by omega)).mono fun e w' h => h)
  have cF : ∀ d os, Calls Tryd.prog 10 #[fv (.slice a1 c.length c1) t (.slice a2 t.kids.length c2)] (Go.Sort.grow (redrawn W d) os) fun e w'' => e = .returned (.string ⟨(shownF c t).toArray⟩) ∧ ∃ p : Regrown, w'' = Go.Sort.grow (redrawn W p.d) p.os := fun d os => Calls.regrown_of ((sfile_any c t _ _ _ (HC.out.keep (below_regrown W d os)) (HL.out.keep (below_regrown W d os)) (tab_up HT.out (below_regrown W d os)) (by omega)).mono fun e w' h => h)
  have cRF : ∀ d os, Calls Tryd.prog 11 #[fv (.slice a1 c.length c1) t (.slice a2 t.kids.length c2)] (Go.Sort.grow (redrawn W d) os) fun e w'' => e = .returned (.string ⟨(shownF c t).toArray⟩) ∧ ∃ p : Regrown, w'' = Go.Sort.grow (redrawn W p.d) p.os := fun d os => Calls.regrown_of ((refShowFile_any c t _ _ _ (HC.out.keep (below_regrown W d os)) (HL.out.keep (below_regrown W d os)) (by omega)).mono fun e w' h => h)
  have cW : ∀ d os, Calls Tryd.prog 12 #[] (Go.Sort.grow (redrawn W d) os) fun e w'' => e = .returned (.bool true) ∧ ∃ p : Regrown, w'' = Go.Sort.grow (redrawn W p.d) p.os := fun d os => Calls.regrown_of ((wakes14_any _ (tab_up HT.out (below_regrown W d os))).mono fun e w' h => h)
  refine wp_region_quiet_below (by kernel_rfl) (by kernel_rfl) ?_
  repeat (any_goals (first | go_big_quiet_step (first | with_reducible exact cD _ _ | with_reducible exact cRD _ _ | with_reducible exact cF _ _ | with_reducible exact cRF _ _ | with_reducible exact cW _ _) | quiet_step (first | with_reducible exact cD _ _ | with_reducible exact cRD _ _ | with_reducible exact cF _ _ | with_reducible exact cRF _ _ | with_reducible exact cW _ _)))
  refine wpQuiet_nil ?_
  intro _ hw'
  obtain ⟨⟨dq, osq⟩, hw''⟩ := hw'
  subst hw''
  have hbq := below_regrown W dq osq
  clear kq0 kq1 kq2 kq3 cD cRD cF cRF cW
  go_wp2
  go_ret
  exact ⟨rfl, HB.out.trans (hbq.mono HB.out.size)⟩
end Go.Proofs.YtdhfbphliejcdaaDoor.Dv

namespace Go.Proofs.YtdhfbphliejcdaaDoor
open Go.ChangeShapes Go.WideShapes Go.ChangeAt Go.RowKit

theorem own : ownKnob Tryd.prog.godebug = none := by kernel_rfl
theorem cells_int : Tryd.prog.cellsOf 3 = 1 := by kernel_rfl
theorem laidOut : laidOutB Tryd.prog = true := by kernel_rfl

instance instOpenTm : Inhabited (Tm × Value) := ⟨(.mk 0 0 0 0 [], .nilIface)⟩

end Go.Proofs.YtdhfbphliejcdaaDoor

namespace Go.Proofs.YtdhfbphliejcdaaDoor.Dv
open Go.ChangeShapes Go.WideShapes Go.ChangeAt Go.RowKit

theorem cells_kids : Tryd.prog.cellsOf 22 = 1 := by kernel_rfl
theorem cells_term : Tryd.prog.cellsOf 24 = 3 := by kernel_rfl
instance instOpenTm : Inhabited (Tm × Value) := ⟨(.mk 0 0 [], .nilIface)⟩
theorem list3 {α : Type} {l : List α} (h : l.length = 3) : ∃ a b c, l = [a, b, c] := by
  match l, h with
  | [a, b, c], _ => exact ⟨a, b, c, rfl⟩

set_option maxRecDepth 100000 in
theorem open_term {H : Type} {enc : TypeId × Value → H} {w : World} {base : Nat} {sp : Nat → Bool} {hd : Bool} : ∀ (fuel : Nat) (cs : List Value) (x : DataW H × List MemPlace),
    DataW.trod enc Tryd.prog w base sp hd fuel 24 cs = some x → ∃ (t : Tm) (s : Value), cs = [.int .i64 t.k, .int .i64 t.i, s] ∧ t.fine ∧ Lies w t.kids s := by
  intro fuel
  induction fuel using Nat.strongRecOn with
  | _ fuel ih =>
    intro cs x h
    obtain ⟨xs, n, rfl, rfl, hl, hlen, hf⟩ := DataW.trod_struct Tryd.underlying24 h
    rw [cells_term] at hl
    obtain ⟨v0, v1, v2, rfl⟩ := list3 hl
    obtain ⟨y0, y1, y2, rfl⟩ := list3 hlen
    have g0 := hf 0 _ rfl
    have g1 := hf 1 _ rfl
    have g2 := hf 2 _ rfl
    simp [cells_int, cells_kids] at g0 g1 g2
    obtain ⟨k, e0, -, w0⟩ := DataW.trod_int Tryd.underlying3 g0
    obtain ⟨i, e1, -, w1⟩ := DataW.trod_int Tryd.underlying3 g1
    simp at e0 e1
    subst e0 e1
    rcases DataW.trod_slice Tryd.underlying22 g2 with ⟨e4, -⟩ | ⟨a, len, cap, elems, rest, n', rfl, e4, -, hb, hlc, hm, hlen', hel, -, -⟩
    · simp at e4
      subst e4
      exact ⟨.mk k i [], _, rfl, ⟨wf_I64 w0, wf_I64 w1⟩, .mk [] none 0 (fun _ => .nilIface) (Nat.le_refl _) (by decide) (fun _ h => by cases h) (fun _ h => by cases h) (fun _ h => by cases h)⟩
    · simp at e4
      subst e4
      have key : ∀ i, i < len → ∃ p : Tm × Value, p.1.fine ∧ Lies w p.1.kids p.2 ∧ ∃ b o, a = ⟨b, o, none⟩ ∧ Node w b (o + i * 3) p.1 p.2 := by
        intro i hi
        have h1 := hel i hi
        rw [cells_term, List.getElem?_eq_getElem (by omega)] at h1
        obtain ⟨cs', h2, h3⟩ := Option.bind_eq_some_iff.1 h1
        obtain ⟨t, s, rfl, hfine, hlies⟩ := ih n' (by omega) _ _ h3
        obtain ⟨-, -, hcell⟩ := World.cells?_some h2
        have hs0 : a.spot = none := by
          have h1 := hel 0 (by omega)
          rw [cells_term, List.getElem?_eq_getElem (by omega)] at h1
          obtain ⟨cs0, h2, -⟩ := Option.bind_eq_some_iff.1 h1
          obtain ⟨-, hl0, hc0⟩ := World.cells?_some h2
          have c0 := hc0 0 (by omega)
          rw [List.getElem?_eq_getElem (by omega)] at c0
          simpa [Addr.add] using World.cell?_spot c0
        obtain ⟨b, o, spot⟩ := a
        simp only at hs0
        subst hs0
        refine ⟨(t, s), hfine, hlies, b, o, rfl, ?_⟩
        have hc : ∀ q, q < 3 → w.cell? ⟨b, o + i * 3 + q, none⟩ = [Value.int .i64 t.k, .int .i64 t.i, s][q]? := fun q hq => by
          have := hcell q hq
          rwa [add_plain, add_plain] at this
        exact ⟨hc 0 (by omega), hc 1 (by omega), hc 2 (by omega)⟩
      obtain ⟨f, hf'⟩ := Go.Deep.choose_lt (α := Tm × Value) (p := fun i p => p.1.fine ∧ Lies w p.1.kids p.2 ∧ ∃ b o, a = ⟨b, o, none⟩ ∧ Node w b (o + i * 3) p.1 p.2) key
      have hl5 : ((List.range len).map fun i => (f i).1).length = len := by simp
      refine ⟨.mk k i ((List.range len).map fun i => (f i).1), _, rfl, ⟨wf_I64 w0, wf_I64 w1⟩, ?_⟩
      have := Lies.mk (w := w) ((List.range len).map fun i => (f i).1) (some a) cap (fun i => (f i).2) (by simpa using hlc) hm
        (fun x hx => by
          obtain ⟨i, hi, rfl⟩ := List.mem_map.1 hx
          exact (hf' i (List.mem_range.1 hi)).1)
        (fun i hi => by
          obtain ⟨b, o, ha, hn⟩ := (hf' i (by simpa using hi)).2.2
          exact ⟨b, o, by rw [ha], by simpa using hn⟩)
        (fun i hi => by simpa using (hf' i (by simpa using hi)).2.1)
      rwa [hl5] at this
end Go.Proofs.YtdhfbphliejcdaaDoor.Dv

namespace Go.Proofs.YtdhfbphliejcdaaDoor.Dv
open Go.ChangeShapes Go.WideShapes Go.ChangeAt Go.RowKit

theorem cells_fileF : Tryd.prog.cellsOf 26 = 4 := by kernel_rfl
theorem list4F {α : Type} {l : List α} (h : l.length = 4) : ∃ a b c d, l = [a, b, c, d] := by
  match l, h with
  | [a, b, c, d], _ => exact ⟨a, b, c, d, rfl⟩
theorem list2F {α : Type} {l : List α} (h : l.length = 2) : ∃ a b, l = [a, b] := by
  match l, h with
  | [a, b], _ => exact ⟨a, b, rfl⟩
set_option maxRecDepth 100000 in
theorem open_rowF {H : Type} {enc : TypeId × Value → H} {w : World} {base : Nat} {sp : Nat → Bool} {hd : Bool} (fuel : Nat) (v : Value) (x : DataW H × List MemPlace)
    (h : DataW.trod enc Tryd.prog w base sp hd fuel 22 [v] = some x) : ∃ l : List Tm, Lies w l v := by
  rcases DataW.trod_slice Tryd.underlying22 h with ⟨e4, -⟩ | ⟨a, len, cap, elems, rest, n', rfl, e4, -, hb, hlc, hm, hlen', hel, -, -⟩
  · simp at e4
    subst e4
    exact ⟨[], .mk [] none 0 (fun _ => .nilIface) (Nat.le_refl _) (by decide) (fun _ h => by cases h) (fun _ h => by cases h) (fun _ h => by cases h)⟩
  · simp at e4
    subst e4
    have key : ∀ i, i < len → ∃ p : Tm × Value, p.1.fine ∧ Lies w p.1.kids p.2 ∧ ∃ b o, a = ⟨b, o, none⟩ ∧ Node w b (o + i * 3) p.1 p.2 := by
      intro i hi
      have h1 := hel i hi
      rw [cells_term, List.getElem?_eq_getElem (by omega)] at h1
      obtain ⟨cs', h2, h3⟩ := Option.bind_eq_some_iff.1 h1
      obtain ⟨t, s, rfl, hfine, hlies⟩ := open_term n' _ _ h3
      obtain ⟨-, -, hcell⟩ := World.cells?_some h2
      have hs0 : a.spot = none := by
        have h1 := hel 0 (by omega)
        rw [cells_term, List.getElem?_eq_getElem (by omega)] at h1
        obtain ⟨cs0, h2, -⟩ := Option.bind_eq_some_iff.1 h1
        obtain ⟨-, hl0, hc0⟩ := World.cells?_some h2
        have c0 := hc0 0 (by omega)
        rw [List.getElem?_eq_getElem (by omega)] at c0
        simpa [Addr.add] using World.cell?_spot c0
      obtain ⟨b, o, spot⟩ := a
      simp only at hs0
      subst hs0
      refine ⟨(t, s), hfine, hlies, b, o, rfl, ?_⟩
      have hc : ∀ q, q < 3 → w.cell? ⟨b, o + i * 3 + q, none⟩ = [Value.int .i64 t.k, .int .i64 t.i, s][q]? := fun q hq => by
        have := hcell q hq
        rwa [add_plain, add_plain] at this
      exact ⟨hc 0 (by omega), hc 1 (by omega), hc 2 (by omega)⟩
    obtain ⟨f, hf'⟩ := Go.Deep.choose_lt (α := Tm × Value) (p := fun i p => p.1.fine ∧ Lies w p.1.kids p.2 ∧ ∃ b o, a = ⟨b, o, none⟩ ∧ Node w b (o + i * 3) p.1 p.2) key
    have hl5 : ((List.range len).map fun i => (f i).1).length = len := by simp
    refine ⟨(List.range len).map fun i => (f i).1, ?_⟩
    have := Lies.mk (w := w) ((List.range len).map fun i => (f i).1) (some a) cap (fun i => (f i).2) (by simpa using hlc) hm
      (fun x hx => by
        obtain ⟨i, hi, rfl⟩ := List.mem_map.1 hx
        exact (hf' i (List.mem_range.1 hi)).1)
      (fun i hi => by
        obtain ⟨b, o, ha, hn⟩ := (hf' i (by simpa using hi)).2.2
        exact ⟨b, o, by rw [ha], by simpa using hn⟩)
      (fun i hi => by simpa using (hf' i (by simpa using hi)).2.1)
    rwa [hl5] at this
set_option maxRecDepth 100000 in
theorem open_argF {H : Type} {enc : TypeId × Value → H} {W : World} {r : Reach} {b0 base : Nat} {sp : Nat → Bool} {hd : Bool} {v : Value} {d : DataW H} {p : List MemPlace} (hv : Value.okWide Tryd.prog W r b0 26 v)
    (h : DataW.Trod enc Tryd.prog W base sp hd 26 v d p) : ∃ (c : List Tm) (t : Tm) (cv s : Value), Lies W c cv ∧ Lies W t.kids s ∧ v = fv cv t s := by
  obtain ⟨cs, rfl, hsz⟩ := okWide_struct Tryd.underlying26 hv
  obtain ⟨fuel, hf⟩ := h
  obtain ⟨xs, n, rfl, hx, hl, hlen, hg⟩ := DataW.trod_struct Tryd.underlying26 hf
  rw [cells_fileF] at hl
  obtain ⟨v0, v1, v2, v3, hcs⟩ := list4F hl
  rw [hcs] at hg
  obtain ⟨y0, y1, rfl⟩ := list2F hlen
  have g0 := hg 0 _ rfl
  have g1 := hg 1 _ rfl
  simp [cells_kids, cells_term] at g0 g1
  obtain ⟨c, hc⟩ := open_rowF n _ _ g0
  obtain ⟨t, s, ht, -, hlt⟩ := open_term n _ _ g1
  simp at ht
  obtain ⟨rfl, rfl, rfl⟩ := ht
  refine ⟨c, t, v0, v3, hc, hlt, ?_⟩
  have : cs.toList = [v0, .int .i64 t.k, .int .i64 t.i, v3] := by simpa [Value.cells] using hcs
  rw [show cs = #[v0, .int .i64 t.k, .int .i64 t.i, v3] from by cases cs; simp_all]
end Go.Proofs.YtdhfbphliejcdaaDoor.Dv

namespace Go.Proofs.YtdhfbphliejcdaaDoor
open Go.ChangeShapes Go.WideShapes Go.ChangeAt Go.WideMaps Go.WideElems Go.RowKit

def laidT : List (String × DataW Unit) := Rows.showExactRow.laid
theorem door_met (os : Os) (args : Array Value) : laidMetH Tryd.prog laidT ((World.doorLaid Tryd.prog 400 os).forCall (fun _ _ => 0) ⟨#[], args, []⟩).memory :=
  laidMetH_of_parts3 (fuel := 8) (laidMet_of_run' 8 (by kernel_rfl) (by kernel_rfl)) (by kernel_rfl) (by kernel_rfl)
theorem tab_of_laid {W : World} (h : laidMetH Tryd.prog laidT W) : Lib.TabIs Tryd.prog W "internal/strconv.uint64pow10" .u64 Lib.pow10Tab := by
  have h2 := h.filter fun x => x.1 == "internal/strconv.uint64pow10"
  have e : (laidT.filter fun x => x.1 == "internal/strconv.uint64pow10") = [("internal/strconv.uint64pow10", Lib.tabData .u64 Lib.pow10Tab)] := by kernel_rfl
  rw [e] at h2
  rw [MakeChecks.laidMetH_plain _ _ _ (by kernel_rfl)] at h2
  exact Lib.tabIs_of_head (g := 0) (t := 111) (e := 95) (n := 20) (by kernel_rfl) (by kernel_rfl) Tryd.underlying111 Tryd.underlying95 (by kernel_rfl) (by kernel_rfl) h2
theorem tabS_of_laid {W : World} (h : laidMetH Tryd.prog laidT W) : Tab W := Lib.tabBelow_of_tabIs (tab_of_laid h)
end Go.Proofs.YtdhfbphliejcdaaDoor

namespace Go.Proofs.YtdhfbphliejcdaaDoor
open Go.ChangeShapes Go.WideShapes

def code (l : List Nat) : List Char := l.map Char.ofNat
def joinN : List (List Nat) → List Nat
  | [] => []
  | [a] => a
  | a :: b :: r => a ++ 32 :: joinN (b :: r)

theorem words_one : ∀ a : List Nat, (a.all fun n => Char.ofNat n != Char.ofNat 32) = true → wordsSigns (code a) = [code a]
  | [], _ => rfl
  | n :: a, h => by
    simp only [List.all_cons, Bool.and_eq_true, bne_iff_ne] at h
    have ih := words_one a h.2
    show wordsSigns (Char.ofNat n :: code a) = _
    rw [wordsSigns]
    · rw [ih]; rfl
    · exact h.1
theorem words_more : ∀ (a : List Nat) (r : List Char), (a.all fun n => Char.ofNat n != Char.ofNat 32) = true → wordsSigns (code a ++ Char.ofNat 32 :: r) = code a :: wordsSigns r
  | [], r, _ => by
    show wordsSigns (Char.ofNat 32 :: r) = _
    rw [show Char.ofNat 32 = _ from rfl, wordsSigns]; rfl
  | n :: a, r, h => by
    simp only [List.all_cons, Bool.and_eq_true, bne_iff_ne] at h
    have ih := words_more a r h.2
    show wordsSigns (Char.ofNat n :: (code a ++ Char.ofNat 32 :: r)) = _
    rw [wordsSigns]
    · rw [ih]; rfl
    · exact h.1
theorem words_join : ∀ ws : List (List Nat), ws ≠ [] → (ws.all fun w => w.all fun n => Char.ofNat n != Char.ofNat 32) = true → wordsSigns (code (joinN ws)) = ws.map code
  | [], h, _ => absurd rfl h
  | [a], _, h => by simp only [List.all_cons, List.all_nil, Bool.and_true] at h; exact words_one a h
  | a :: b :: r, _, h => by
    have h' := h
    rw [List.all_cons, Bool.and_eq_true] at h'
    have ih := words_join (b :: r) (by simp) h'.2
    show wordsSigns (code (a ++ 32 :: joinN (b :: r))) = _
    rw [show code (a ++ 32 :: joinN (b :: r)) = code a ++ Char.ofNat 32 :: code (joinN (b :: r)) from by simp [code], words_more a _ h'.1, ih]; rfl

def cutWords : List (List Nat) := [[104, 97, 114, 110, 101, 115, 115],
  [102, 55, 100, 52, 49, 49, 57, 57, 54, 99, 99, 57, 56, 50, 100, 98, 50, 53, 55, 99, 99, 52, 101, 51, 55, 99, 54, 100, 54, 52, 48, 101, 48, 100, 48, 56, 48, 53, 56, 49, 49, 101, 56, 49, 53, 52, 55, 49, 55, 53, 54, 51, 48, 57, 48, 102, 56, 50, 52, 101, 51, 50, 53, 101],
  [99, 117, 116],
  [97, 116],
  [116, 114, 97, 110, 115, 104, 105, 112, 47, 116, 114, 97, 110, 115, 104, 105, 112, 108, 97, 119, 49, 52, 46, 83, 104, 111, 119, 69, 120, 97, 99, 116],
  [116, 114, 97, 110, 115, 104, 105, 112, 47, 116, 114, 97, 110, 115, 104, 105, 112, 108, 97, 119, 49, 52, 46, 83, 104, 111, 119, 66, 97, 99, 107],
  [116, 114, 97, 110, 115, 104, 105, 112, 47, 116, 114, 97, 110, 115, 104, 105, 112, 108, 97, 119, 49, 52, 46, 83, 104, 111, 119, 70, 105, 120, 101, 100],
  [116, 114, 97, 110, 115, 104, 105, 112, 47, 116, 114, 97, 110, 115, 104, 105, 112, 108, 97, 119, 49, 52, 46, 83, 104, 111, 119, 85, 110, 108, 105, 107, 101]]

set_option maxRecDepth 100000 in
theorem cut_words : wordsSigns Tryd.prog.initOrder.toList = cutWords.map code := by
  have h : Tryd.prog.initOrder.toList = code (joinN cutWords) := by
    show (String.ofList (code (joinN cutWords))).toList = _
    exact String.toList_ofList
  rw [h]
  exact words_join cutWords (by simp [cutWords]) (by decide +kernel)

theorem cut_behind : behindMainWord (cutWords.map code) = code [99, 117, 116] :: cutWords.tail.tail.tail.map code := by kernel_rfl
theorem cut_lifts : stripLifts liftWords (code [99, 117, 116] :: cutWords.tail.tail.tail.map code) = ([], code [99, 117, 116] :: cutWords.tail.tail.tail.map code) := by kernel_rfl
theorem cut1 : (code [99, 117, 116] == "gc".toList) = false := by kernel_rfl
theorem cut2 : (code [99, 117, 116] == "spec".toList) = false := by kernel_rfl
theorem cut3 : (code [99, 117, 116] == "cut".toList) = true := by kernel_rfl
theorem cut_all : behindMainWord (wordsSigns Tryd.prog.initOrder.toList) = code [99, 117, 116] :: cutWords.tail.tail.tail.map code := by rw [cut_words, cut_behind]
theorem make_of (P : Program) {c : List Char} {rest : List (List Char)} (h : behindMainWord (wordsSigns P.initOrder.toList) = c :: rest) (h1 : (c == "gc".toList) = false) (h2 : (c == "spec".toList) = false) (h3 : (c == "cut".toList) = true) : P.make = some .cut := by
  unfold Program.make; rw [h]
  simp only [h1, h2, h3, Bool.or_self, Bool.false_eq_true, if_false, Bool.true_or, if_true]
theorem mayEnter_of (P : Program) {c : List Char} {rest : List (List Char)} (h : behindMainWord (wordsSigns P.initOrder.toList) = c :: rest) (h3 : ((stripLifts liftWords (c :: rest)).2.head? == some "cut".toList) = true)
    (h4 : (stripLifts liftWords (c :: rest)).1 = []) (h5 : P.laysLater = false) (h6 : P.bearsReflect = false) (h7 : P.doorFits [] = true) : P.mayEnter = true := by
  unfold Program.mayEnter; rw [h]
  refine Bool.or_eq_true_iff.2 (Or.inr ?_)
  rw [h3, h4, h5, h6, h7]; rfl
theorem row_make : Tryd.prog.make = some .cut := make_of Tryd.prog cut_all cut1 cut2 cut3
theorem row_mayEnter : Tryd.prog.mayEnter = true := mayEnter_of Tryd.prog cut_all (by rw [cut_lifts]; kernel_rfl) (by rw [cut_lifts]) (by kernel_rfl) (by kernel_rfl) (by kernel_rfl)
theorem row_lifts : Tryd.prog.liftsFinal = false := by unfold Program.liftsFinal Program.headLifts; rw [cut_all, cut_lifts]; kernel_rfl
end Go.Proofs.YtdhfbphliejcdaaDoor

namespace Go.Proofs.YtdhfbphliejcdaaDoor.lawShowExact
open Go.ChangeShapes Go.WideShapes Go.ChangeAt Go.RowKit Go.ChangeMaps

set_option maxRecDepth 100000 in
theorem lifted (os : Os) (started : os.Started) (H : Type) (enc : TypeId × Value → H) :
    ReturnsInHanded {} Tryd.checked os 3 .any (fun w args => (Rows.showExactSpec.pre enc Tryd.prog Tryd.f3 [] false w args ∧ laidMetH Tryd.prog laidT w) ∧ sizedMet enc Tryd.prog Tryd.f3 (OpenSpec.ofChange Rows.showExactSpec) false w args)
      (Rows.showExactSpec.post enc Tryd.prog Tryd.f3 false true false false) := by
  refine returnsInHanded_of_change_and (C := Tryd.checked) (X := fun w _ => laidMetH Tryd.prog laidT w) (fun _ _ _ hh h => h.of_heap hh) own started (by kernel_rfl) Tryd.func3
    (ChangeSpec.witness_shaped (enc := enc) (C := Tryd.checked) (os := os) (X := fun w _ => laidMetH Tryd.prog laidT w) false (World.doorLaid Tryd.prog 400 os) #[.agg #[.slice none 0 0, .int .i64 0, .int .i64 0, .slice none 0 0]] 8 rfl (World.shaped_of_RefB (by kernel_rfl) (by kernel_rfl)) (by kernel_rfl) (by kernel_rfl) (by kernel_rfl) (door_met os _)) ?_
  intro W base args ds gs before hval0 hW _ _ hL _
  have hval : ∀ (j : Nat) t v, Tryd.f3.params[j]? = some t → args[j]? = some v → Value.okWide Tryd.prog W .any base t v := hval0
  have hW' := hW
  obtain ⟨p, q, hA0, hV, rfl, hfz, hnd⟩ := hW
  have hA : DataW.TrodAll enc Tryd.prog W 0 (fun _ => true) true Tryd.f3.params.toList args.toList ds p := hA0
  rw [Tryd.params3] at hA hval
  obtain ⟨v0, vs0, d0, ds0, p0, q0, hargs0, rfl, rfl, h0, r0⟩ := trodAll_cons hA
  obtain ⟨rfl, rfl, rfl⟩ := trodAll_nil r0
  obtain rfl : args = #[v0] := by cases args; simp_all
  obtain ⟨rfl, rfl⟩ := trodVars_none hV
  have h0k := h0
  have hlt0 : ∀ x ∈ p0, x.block < W.heap.size := fun x hx => by have := hW'.lt x (by simp [hx]); simpa using this
  obtain ⟨c0, t0, cv0, s0, hc0, hl0, hv0⟩ := Dv.open_argF (hval 0 26 v0 rfl rfl) h0
  subst hv0
  clear hA0 hval0
  simp only [List.append_nil] at hW'
  have hT := tabS_of_laid hL
  refine (Dv.showExact_any c0 t0 W cv0 s0 hc0 hl0 hT).mono fun e W' ⟨he, hb⟩ => ?_
  subst he
  exact ⟨_, rfl, _, _, _, [], _, [], hW', trodAll_cons_mk (shut_bool Tryd.underlying4 _) trodAll_mk0, (trodAll_cons_mk (Below.trod laidOut (by kernel_rfl) (of_decide_eq_true (by kernel_rfl)) h0k hb hlt0) trodAll_mk0), rfl, hb.frame _, fun h => by cases h⟩

theorem closed : joinedFacts Tryd.prog 3 Tryd.f3 Rows.showExactSpec Rows.showExactRow = true := by
  unfold joinedFacts
  rw [row_mayEnter, row_lifts, row_make]
  kernel_rfl
theorem showExact_holds : Rows.ShowExactSaid :=
  OpenClaim.holds_of_wide 3 Tryd.f3 rfl rfl rfl rfl rfl rfl rfl ⟨rfl, rfl, rfl, rfl, rfl⟩ rfl rfl rfl rfl rfl (by kernel_rfl) Tryd.func3 closed
    (of_decide_eq_true (by kernel_rfl)) (by unfold Func.isWrapper; first | (rw [if_pos (by decide +kernel)]; kernel_rfl) | (rw [if_neg (by decide +kernel)]; exact ⟨rfl, rfl⟩))
    (fun os started H enc _ => lifted os started H enc)
theorem proved : Rows.ShowExactCardSaid :=
  Claim7.holds_tied_plain_at .later [] [.data, .data, .data] true Rows.showExactCard.stood.harness true
    showExact_holds (fun _ h => by cases h) (by kernel_rfl) (fun _ h => by cases h) showExact_row_tie rfl ⟨rfl, rfl⟩ (by kernel_rfl) rfl
    (fun f fn hf hfn => by
      obtain rfl : f = 3 := Option.some.inj ((show Tryd.prog.funcNamed "tranship/transhiplaw14.ShowExact" = some 3 by kernel_rfl).symm.trans hf) |>.symm
      obtain rfl : fn = Tryd.f3 := (Option.some.inj (Tryd.func3.symm.trans hfn)).symm
      exact ⟨by kernel_rfl, fun j t ht => by
        rw [Tryd.params3] at ht
        have hm : t ∈ [26] := by simpa using Array.mem_of_getElem? ht
        have hall : ([26].all fun u => !Tryd.prog.wantsStandIn u) = true := by kernel_rfl
        exact (show Tryd.prog.wantsStandIn t = false by simpa using List.all_eq_true.1 hall t hm)⟩)
    (by kernel_rfl)
#print axioms proved
end Go.Proofs.YtdhfbphliejcdaaDoor.lawShowExact
