/-
  ShowUnlike holds: for every input the call returns true, and the arguments read as before. No condition.
-/
import Derived.Lib.ItoaNum
import Derived.Lib.ItoaLen
import Derived.Test.YtdhfbphliejcdaaDoorRows
import Derived.WalkKit
import Derived.Lib.Hide
import Derived.ProofKit
import Derived.LoopTactic
import Derived.Below
import Derived.IntWalk
import Derived.Lib.Strings
import Derived.Laws.Strings2
import Derived.Deep.AppendLies
import Derived.Laws.Rows
import Derived.OwnWalk
import Derived.KernelRfl
import Derived.Deep.RegionHeld3
import Derived.Lib.Builder
import Derived.WalkSmall
import Derived.Maps.GroupsBeside
import Derived.Maps.StringElems
import Derived.Laws.OwnMore
import Derived.Deep.RegionLaw
import Derived.Maps.AppendAt
import Derived.Deep.Cut
import Derived.Deep.DeepCutAuto
import Derived.Maps.OwnOps
import Derived.Maps.OwnSet
import Derived.Lib.MinMax
import Derived.Laws.IdiomCopy
import Derived.Deep.Slices
import Derived.Lib.QuietBelow
import Derived.StillTailTactics
import Derived.BigQuiet
import Derived.Deep.RegionWith
import Derived.OrdersHeld
import Derived.Laws.StructEq
import GoSem.Core.Float
import Derived.Laws.Cover2
import Derived.Laws.FloatArith
import Derived.Laws.Externs
import Derived.Deep.QuietTactic
import Derived.Recover
import Derived.RegionTactic
import Derived.Defers
import Derived.Test.YtdhfbphliejcdaaDoorShelf
import Derived.Lib.AppendIntMem
import Derived.Lib.LaidTab
import Derived.Lib.AppendStr
import Derived.Lib.UnsafeStr
import Derived.Shelf.RegionOpenPlain
import Derived.Laws.AppendOwn
import Derived.Deep.CutBlock
import Derived.Deep.LoopGhost
import Derived.Laws.BytesArg
import Derived.Laws.AppendOwnNone
import Derived.OpenShut
import Derived.Carry
import Derived.LaidMore
import Derived.LaidSub
import Derived.LaidHandle
import Derived.Stop.Joined
import Derived.JoinedOf
import Derived.Test.YtdhfbphliejcdaaDoorCards
import Derived.Test.YtdhfbphliejcdaaDoorTie
import Derived.SevenTiedAt
import Derived.ChangeMaps5
import Derived.Test.YtdhfbphliejcdaaDoorShowUnlikeQ1
namespace Go.Proofs.YtdhfbphliejcdaaDoor.Dv
open Go.RowKit

/-- Beside the boxed derivation there is a builder that holds cs. -/
structure WSt (w0 : World) (b : Nat) (w : World) (cs : List Value) (wr : World) : Prop where
  bld : IsB w0.heap.size b cs wr
  low : Below w0.heap.size w0 wr
  kept : Kept b w wr
  up : Below w0.heap.size w wr
theorem WSt.size {w0 w wr : World} {b : Nat} {cs : List Value} (h : WSt w0 b w cs wr) : w.heap.size ≤ wr.heap.size := h.up.size
theorem WSt.call {w0 w wr wr' : World} {b : Nat} {cs : List Value} (h : WSt w0 b w cs wr) (k : Below wr.heap.size wr wr') : WSt w0 b w cs wr' :=
  ⟨isb_below h.bld k, h.low.trans (k.mono h.low.size), h.kept.trans (Kept.below k), h.up.trans (k.mono h.low.size)⟩
theorem WSt.put {w0 w wr wr' : World} {b : Nat} {cs cs' : List Value} (h : WSt w0 b w cs wr) (h1 : BAt w0.heap.size b (.pointer (some ⟨b, 0, none⟩)) cs' wr') (h2 : Below w0.heap.size wr wr') (h3 : Kept b wr wr') : WSt w0 b w cs' wr' :=
  ⟨.inr h1, h.low.trans h2, h.kept.trans h3, h.up.trans h2⟩
theorem WSt.tab {w0 w wr : World} {b : Nat} {cs : List Value} (h : WSt w0 b w cs wr) (hT : Tab w0) : Tab wr := hT.later h.low
theorem WSt.hB {w0 w wr : World} {b : Nat} {cs : List Value} (h : WSt w0 b w cs wr) : w0.heap.size ≤ wr.heap.size := h.low.size
theorem isB_lt {B b : Nat} {bs : List Value} {w : World} (h : IsB B b bs w) : b < w.heap.size := h.elim (fun h => h.lt) (fun h => h.lt)
theorem wst_start {w0 w : World} {b : Nat} {cs : List Value} (h : IsB w0.heap.size b cs w) (hl : Below w0.heap.size w0 w) (o : Obj) : WSt w0 b (w.alloc o) cs (w.alloc o) :=
  ⟨isb_below h ((Below.refl _ w).alloc (Nat.le_refl _) o), hl.alloc hl.size o, Kept.refl _ _, Below.refl _ _⟩
theorem WSt.at {w0 w wr : World} {b j : Nat} {cs : List Value} {vs : Array Value} {T : TypeId} {fr : Nat × Nat} (h : WSt w0 b w cs wr) (hj : w.heap[j]? = some (.cells vs T fr)) (hb : j ≠ b) (hT : T ≠ 5) : wr.heap[j]? = some (.cells vs T fr) :=
  h.kept _ _ hj hb (fun cur fz e => by injection e with _ e2 _; exact hT e2)
theorem WSt.again {w0 w wr : World} {b : Nat} {cs : List Value} (h : WSt w0 b w cs wr) : WSt w0 b wr cs wr := ⟨h.bld, h.low, Kept.refl _ _, Below.refl _ _⟩
theorem WSt.over {w0 w wr w8 : World} {b : Nat} {cs cs' : List Value} {o : Obj} (h : WSt w0 b w cs wr) (k : WSt w0 b (wr.alloc o) cs' w8) : WSt w0 b w cs' w8 := ⟨k.bld, k.low, h.kept.trans ((Kept.alloc b wr o).trans k.kept), (h.up.alloc h.hB o).trans k.up⟩
theorem ud_ne : (24 : TypeId) ≠ 5 := by decide
theorem uf_ne : (26 : TypeId) ≠ 5 := by decide
theorem WSt.cells {w0 w wr : World} {b x : Nat} {cs : List Value} {v0 v1 v2 : Value} (h : WSt w0 b w cs wr) (hx : w.heap[x]? = some (.cells #[v0, v1, v2] 24)) (hb : x ≠ b) :
    wr.cell? ⟨x, 0, none⟩ = some v0 ∧ wr.cell? ⟨x, 1, none⟩ = some v1 ∧ wr.cell? ⟨x, 2, none⟩ = some v2 := five_cells (h.at hx hb ud_ne)
theorem bytes_app (a : List Value) (x y : List UInt8) : (a ++ Lib.byteCells x) ++ Lib.byteCells y = a ++ Lib.byteCells (x ++ y) := by simp [Lib.byteCells]
theorem word_of (k : Int) : wordN k = ⟨(wordL k).toArray⟩ := by
  unfold wordL
  cases wordN k
  rfl
def WPut (w0 : World) (b : Nat) (t : Tm) : Prop := ∀ (w : World) (s : Value) (bs : List Value), Lies w0 t.kids s → Below w0.heap.size w0 w → IsB w0.heap.size b bs w → t.rightB = true → bs.length + 32 * t.size ≤ 140737488355328 →
    Calls Tryd.prog 22 #[.pointer (some ⟨b, 0, none⟩), tv t s] w fun e w' => e = .returned (.tuple #[]) ∧ BAt w0.heap.size b (.pointer (some ⟨b, 0, none⟩)) (bs ++ Lib.byteCells t.sh) w' ∧ Below w0.heap.size w w' ∧ Kept b w w'
theorem WPut.use {w0 : World} {b : Nat} {t : Tm} (h : WPut w0 b t) (w : World) (s : Value) (bs : List Value) (h1 : Lies w0 t.kids s) (h2 : Below w0.heap.size w0 w) (h3 : IsB w0.heap.size b bs w) (h4 : t.rightB = true) (h8 : bs.length + 32 * t.size ≤ 140737488355328) :
    Calls Tryd.prog 22 #[.pointer (some ⟨b, 0, none⟩), tv t s] w fun e w' => e = .returned (.tuple #[]) ∧ BAt w0.heap.size b (.pointer (some ⟨b, 0, none⟩)) (bs ++ Lib.byteCells t.sh) w' ∧ Below w0.heap.size w w' ∧ Kept b w w' := h w s bs h1 h2 h3 h4 h8
theorem shs_take (l : List Tm) (q : Nat) (h : q < l.length) : shs (l.take (q + 1)) = shs (l.take q) ++ 32 :: (l[q]).sh := by
  rw [List.take_add_one, List.getElem?_eq_getElem h, Option.toList_some, shs_append]
  simp [shs]
theorem take_len {l : List Tm} (hr : rights l = true) (q : Nat) (h : q < l.length) : (shs (l.take q)).length + 32 * (l[q]).size ≤ 32 * sizes l := by
  have h1 := shs_len (l.take q) (fun x hx => sh_len x (rights_mem hr x (List.mem_of_mem_take hx)))
  have h2 := sizes_take l q h
  have h3 := sizes_le l (q + 1)
  omega
set_option maxHeartbeats 4000000 in
set_option maxRecDepth 100000 in
theorem sput_any (w0 : World) (hT : Tab w0) (b : Nat) (t : Tm) : WPut w0 b t := by
  induction t using Tm.ind with
  | h t ih =>
    intro w s bs hl hlw hB hr hbs
    obtain ⟨a, cap, S, rfl, hc, hmx, hfi, hn, hk⟩ := hl.out
    obtain ⟨k1, hlen, i0, i1, hrk⟩ := dright_of hr
    have hi := most_num i1
    have HX := Lib.hid t.sh_eq
    have HWD := Lib.hid (word_of t.k)
    have HWL := Lib.hid (word_read k1).2.2.1
    have HNL := Lib.hid (show (numL t.k t.i).length ≤ 22 from by
      have := Lib.itoa_length_le t.i (by omega) (by omega)
      unfold numL
      split
      · simp only [List.length_cons]; omega
      · simp)
    have HS := Lib.hid (wst_start hB hlw (.cells #[.int .i64 t.k, .int .i64 t.i, .slice a t.kids.length cap] 24))
    have HBX := Lib.hid (show (w.alloc (.cells #[.int .i64 t.k, .int .i64 t.i, .slice a t.kids.length cap] 24)).heap[w.heap.size]? = some (.cells #[.int .i64 t.k, .int .i64 t.i, .slice a t.kids.length cap] 24) from alloc_new _ _)
    have HNB := Lib.hid (show w.heap.size ≠ b by have := isB_lt hB; omega)
    have HT := Lib.hid hT
    have HLN := Lib.hid (show bs.length + 32 * (sizes t.kids + 1) ≤ 140737488355328 by rw [← t.size_eq]; exact hbs)
    have HSL := Lib.hid (shs_len t.kids (fun x hx => sh_len x (rights_mem hrk x hx)))
    have HN := Lib.hid hn
    have HK := Lib.hid hk
    have HR := Lib.hid (rights_mem hrk)
    have HRK := Lib.hid hrk
    have IH := Lib.hid ih
    have hI : I64 t.i := by unfold I64; omega
    have HUP0 := Lib.hid (show Below w0.heap.size w (w.alloc (.cells #[.int .i64 t.k, .int .i64 t.i, .slice a t.kids.length cap] 24)) ∧ Kept b w (w.alloc (.cells #[.int .i64 t.k, .int .i64 t.i, .slice a t.kids.length cap] 24)) from ⟨(Below.refl _ w).alloc hlw.size _, Kept.alloc _ _ _⟩)
    clear hB hlw hr hbs hn hk hl ih hfi hrk hlen k1
    unfold tv
    unfold maxLen at hmx
    go_enter Tryd.func22, Tryd.ntmps22
    go_upto_region 1 with fail
    obtain ⟨wB, hwB⟩ : ∃ wB, wB = w.alloc (.cells #[.int .i64 t.k, .int .i64 t.i, .slice a t.kids.length cap] 24) := ⟨_, rfl⟩
    rw [← hwB] at HS HBX HUP0
    rw [← hwB]
    clear hwB
    go_cut [11] (fun s11 wx => ∃ v : Value, s11 = v ∧ Hid (WSt w0 b wB (bs ++ Lib.byteCells ([40] ++ wordL t.k)) wx))
    case first =>
      obtain ⟨d0, d1, d2⟩ := HS.out.cells HBX.out HNB.out
      go_wp2_with fail
      refine (dword_any t.k _).mono ?_
      rintro e w' ⟨rfl, hw'⟩
      obtain rfl := hw'.symm
      rw [HWD.out]
      go_wp2_with fail
      · exfalso; have := HWL.out; omega
      rw [show (⟨#[40]⟩ : ByteArray) = ⟨[(40 : UInt8)].toArray⟩ from rfl, str_add]
      refine (bstr_any _ b _ _ _ HS.out.bld (by have := HLN.out; have := HWL.out; simp [ByteArray.size]; omega) HS.out.hB).mono ?_
      rintro e w1 ⟨rfl, hb1, hl1, hk1⟩
      have h1 := HS.out.put hb1 hl1 hk1
      rw [Lib.strCells_toArray] at h1
      have H1 := Lib.hid h1
      clear hb1 hl1 hk1 h1
      go_wp2_with fail
      go_meet
      case rel => exact ⟨_, rfl, H1⟩
    case rest =>
    obtain ⟨v11, rfl, hcut⟩ := hcut
    have HS1 := hcut
    clear hcut
    go_step
    go_step
    go_cut [19] (fun s19 wx => ∃ v : Bool, s19 = .bool v ∧ Hid (WSt w0 b wB (bs ++ Lib.byteCells ([40] ++ wordL t.k ++ numL t.k t.i)) wx))
    case first =>
      obtain ⟨d0, d1, d2⟩ := HS1.out.cells HBX.out HNB.out
      by_cases h12 : t.k = 1 ∨ t.k = 2
      · have HNM := Lib.hid (show numL t.k t.i = 32 :: Lib.itoa t.i from if_pos h12)
        have HNL2 := Lib.hid (by have h := HNL.out; rw [HNM.out] at h; exact h)
        have hcs : ((t.k == 1) = true ∧ True) ∨ ((t.k == 1) = false ∧ (t.k == 2) = true) := by
          rcases h12 with h | h
          · left; exact ⟨by rw [h]; rfl, trivial⟩
          · right; exact ⟨by rw [h]; rfl, by rw [h]; rfl⟩
        clear h12
        rcases hcs with ⟨e1, -⟩ | ⟨e1, e2⟩
        all_goals
          go_wp2_with fail
          refine (put_any _ _ hI (HS1.out.tab HT.out)).mono ?_
          rintro e w3 ⟨rfl, hb3⟩
          have HS3 := Lib.hid (HS1.out.call hb3)
          clear hb3
          go_wp2_with fail
          · exfalso; have := HNL2.out; simp at this; omega
          rw [show (⟨#[32]⟩ : ByteArray) = ⟨[(32 : UInt8)].toArray⟩ from rfl, str_add]
          refine (bstr_any _ b _ _ _ HS3.out.bld (by have := HLN.out; have := HWL.out; have := HNL2.out; simp [ByteArray.size, Lib.byteCells] at this ⊢; omega) HS3.out.hB).mono ?_
          rintro e w4 ⟨rfl, hb4, hl4, hk4⟩
          have h4 := HS3.out.put hb4 hl4 hk4
          rw [Lib.strCells_toArray, bytes_app] at h4
          have H4 := Lib.hid h4
          clear hb4 hl4 hk4 h4
          go_wp2_with fail
          go_meet
          case rel => exact ⟨_, rfl, by rw [HNM.out]; exact H4⟩
      · have HNM := Lib.hid (show numL t.k t.i = [] from if_neg h12)
        have e1 : (t.k == 1) = false := by simpa using fun e => h12 (Or.inl e)
        have e2 : (t.k == 2) = false := by simpa using fun e => h12 (Or.inr e)
        clear h12
        go_wp2_with fail
        go_meet
        case rel => exact ⟨_, rfl, by rw [HNM.out, List.append_nil]; exact HS1⟩
    case rest =>
    obtain ⟨v19, rfl, hcut⟩ := hcut
    have HS2 := hcut
    clear hcut HS1 HS
    obtain ⟨d0, d1, d2⟩ := HS2.out.cells HBX.out HNB.out
    go_wp2_with fail
    clear d0 d1 d2
    go_loopw [29] (fun i wv => ∃ q : Nat, q ≤ t.kids.length ∧ i = .int .i64 q ∧ Hid (WSt w0 b wB (bs ++ Lib.byteCells ([40] ++ wordL t.k ++ numL t.k t.i ++ shs (t.kids.take q))) wv)) (fun i _ => t.kids.length - (intOf i).toNat)
    case atStart => exact ⟨0, Nat.zero_le _, rfl, by have h := HS2.out; simp only [List.take_zero, shs, List.append_nil]; exact h⟩
    case round =>
      obtain ⟨q, hq, rfl, hv⟩ := hrel
      have HV := Lib.hid hv.out
      clear hv HS2
      by_cases hlt : q < t.kids.length
      · obtain ⟨bn, oo, rfl, hx⟩ := HN.out q hlt
        obtain ⟨c0, c1, c2⟩ := hx.below HV.out.low hx.lt
        have hq4 := HK.out q hlt
        obtain ⟨a', cap', S', hS, -⟩ := hq4.out
        rw [hS] at c2 hq4
        have HQ := Lib.hid hq4
        have HM := Lib.hid (List.getElem_mem hlt)
        have HTL := Lib.hid (take_len HRK.out q hlt)
        have HTK := Lib.hid (shs_take t.kids q hlt)
        have HV5 := Lib.hid (HV.out.call (wr' := wr.alloc (.cells #[.int .i64 t.kids[q].k, .int .i64 t.kids[q].i, .slice a' t.kids[q].kids.length cap'] 24)) ((Below.refl _ _).alloc (Nat.le_refl _) _)).again
        have hsv : b < wr.heap.size := isB_lt HV.out.bld
        clear hS hq4 hx
        go_wp2_with fail
        refine (bbyte_any _ b _ _ _ HV5.out.bld (by have := HLN.out; have := HWL.out; have := HNL.out; have := HTL.out; simp [Lib.byteCells]; omega) HV5.out.hB).mono ?_
        rintro e w6 ⟨rfl, hb6, hl6, hk6⟩
        have HS6 := Lib.hid (HV5.out.put hb6 hl6 hk6)
        clear hb6 hl6 hk6 c0 c1 c2
        obtain ⟨y0, y1, y2⟩ := HS6.out.cells (x := wr.heap.size) (alloc_new _ _) (by omega)
        go_wp2_with fail
        refine ((IH.out _ HM.out).use _ _ _ HQ.out HS6.out.low HS6.out.bld (HR.out _ HM.out) (by have := HLN.out; have := HWL.out; have := HNL.out; have := HTL.out; simp [Lib.byteCells]; omega)).mono ?_
        rintro e w8 ⟨rfl, hb8, hl8, hk8⟩
        have HS8 := Lib.hid (HV.out.over (HS6.out.put hb8 hl8 hk8))
        clear hb8 hl8 hk8 y0 y1 y2
        have hwq : IntKind.i64.wrap ((q : Int) + 1) = (q : Int) + 1 := IntWalk.i64_in _ (by omega)
        go_wp2_with fail
        go_roundw
        case rel => exact ⟨q + 1, hlt, by go_num, by have h := HS8.out; rw [HTK.out]; simpa [Lib.byteCells, Hid] using h⟩
        case measure => simp [intOf]; omega
      · obtain rfl : q = t.kids.length := by omega
        go_wp2_with fail
        refine (bbyte_any _ b _ _ _ HV.out.bld (by have := HLN.out; have := HWL.out; have := HNL.out; have := HSL.out; simp [Lib.byteCells]; omega) HV.out.hB).mono ?_
        rintro e w6 ⟨rfl, hb6, hl6, hk6⟩
        have HS6 := Lib.hid (HV.out.put hb6 hl6 hk6)
        have HB6 := Lib.hid hb6
        clear hb6 hl6 hk6
        go_wp2
        go_end0
        exact ⟨rfl, by have h := HB6.out; rw [HX.out]; rw [List.take_length] at h; simpa [Lib.byteCells] using h, HUP0.out.1.trans HS6.out.up, HUP0.out.2.trans HS6.out.kept⟩
end Go.Proofs.YtdhfbphliejcdaaDoor.Dv

namespace Go.Proofs.YtdhfbphliejcdaaDoor.Dv
open Go.RowKit

/-- The text of a derivation, or nothing. -/
def shownD (t : Tm) : List UInt8 := if t.rightB = true then t.sh else []
def shownF (c : List Tm) (t : Tm) : List UInt8 := if rights c = true ∧ t.rightB = true then fileL c t else []
theorem sh_some (t : Tm) : t.sh ≠ [] := by rw [t.sh_eq]; simp
def headF : List UInt8 := [40, 102, 105, 108, 101, 32, 40]
theorem file_text (c : List Tm) (t : Tm) : fileL c t = headF ++ ctxL c ++ [41, 32] ++ t.sh ++ [41, 10] := by unfold fileL headF fileW; simp
theorem ctx_take (l : List Tm) (q : Nat) (h : q < l.length) : ctxL (l.take (q + 1)) = (ctxL (l.take q) ++ (if 0 < q then [32] else [])) ++ (l[q]).sh := by
  cases l with
  | nil => simp at h
  | cons x r =>
    cases q with
    | zero => simp [ctxL, shs]
    | succ q =>
      simp only [List.take_succ_cons, ctxL, List.getElem_cons_succ]
      rw [shs_take r q (by simpa using h)]
      simp
theorem ctx_room {l : List Tm} {q : Nat} (hr : rights (l.take q) = true) (h : q < l.length) : (ctxL (l.take q)).length + 32 * (l[q]).size ≤ 32 * sizes l := by
  have h1 := ctx_len hr
  have h2 := sizes_take l q h
  have h3 := sizes_le l (q + 1)
  omega
theorem rights_false {l : List Tm} {q : Nat} (h : q < l.length) (hr : (l[q]).rightB = false) : rights l = false := rights_of l q h hr
/-- Beside the boxed file there is only what is new. -/
def HeldF (w : World) (cv : Value) (k i : Int) (s : Value) (w' : World) : Prop := Below (w.heap.size + 1) (w.alloc (fileO cv k i s)) w'
theorem heldF_at {w w' : World} {cv : Value} {k i : Int} {s : Value} (h : HeldF w cv k i s w') : w'.heap[w.heap.size]? = some (fileO cv k i s) := (h.block _ (Nat.lt_succ_self _)).trans (alloc_new _ _)
theorem heldF_call {w w1 w2 : World} {cv : Value} {k i : Int} {s : Value} (h : HeldF w cv k i s w1) (hb : Below w1.heap.size w1 w2) : HeldF w cv k i s w2 := below_call h hb (by have := h.size; simpa using this)
theorem heldF_below {w w1 : World} {cv : Value} {k i : Int} {s : Value} (h : HeldF w cv k i s w1) : Below w.heap.size w w1 := below_of_box h
theorem heldF_lies {w w1 : World} {cv : Value} {k i : Int} {s s' : Value} {l : List Tm} (h : HeldF w cv k i s w1) (hl : Lies w l s') : Lies w1 l s' := hl.keep (heldF_below h)
theorem tab_up {w w' : World} (h : Tab w) (hb : Below w.heap.size w w') : Tab w' := h.later hb
set_option maxHeartbeats 4000000 in
set_option maxRecDepth 100000 in
theorem sderiv_any (t : Tm) (w : World) (s : Value) (hl : Lies w t.kids s) (hT : Tab w) (hz : t.size ≤ 1000000) :
    Calls Tryd.prog 8 #[tv t s] w fun e w' => e = .returned (.string ⟨(shownD t).toArray⟩) ∧ Below w.heap.size w w' := by
  obtain ⟨a, cap, S, rfl, -⟩ := hl.out
  have HH := Lib.hid (held_start w t (.slice a t.kids.length cap))
  have HL := Lib.hid (hl.keep ((Below.refl _ _).alloc (Nat.le_refl _) (.cells #[.int .i64 t.k, .int .i64 t.i, .slice a t.kids.length cap] 24)))
  have HT := Lib.hid hT
  clear hl hT
  unfold tv
  go_enter Tryd.func8, Tryd.ntmps8
  cases hr : t.rightB with
  | false =>
    go_wp2_with fail
    refine (dright_any t _ _ HL.out).mono ?_
    rintro e w1 ⟨rfl, hb1⟩
    rw [hr]
    have HB1 := Lib.hid (held_below (held_call HH.out hb1))
    clear hb1
    go_wp2
    go_ret
    exact ⟨by unfold shownD; rw [if_neg (by rw [hr]; decide)]; rfl, HB1.out⟩
  | true =>
    go_wp2_with fail
    refine (dright_any t _ _ HL.out).mono ?_
    rintro e w1 ⟨rfl, hb1⟩
    rw [hr]
    have H1 := Lib.hid (held_call HH.out hb1)
    have HL1 := Lib.hid (HL.out.keep hb1)
    have HT1 := Lib.hid (tab_up HT.out (held_below H1.out))
    obtain ⟨d0, d1, d2⟩ := held_cells H1.out
    have hlt1 : w.heap.size < w1.heap.size := by have := H1.out.size; simp at this; omega
    clear hb1
    go_wp2_with fail
    refine ((sput_any w1 HT1.out w1.heap.size t).use _ _ [] HL1.out ((Below.refl _ w1).alloc (Nat.le_refl _) _) (Lib.fresh_isBuilder _ _ w1) hr (by simp; omega)).mono ?_
    rintro e w3 ⟨rfl, hb3, hl3, hk3⟩
    have HB3 := Lib.hid hb3
    have HL3 := Lib.hid hl3
    clear hb3 hl3 hk3
    go_wp2_with fail
    refine (btext_any _ _ _ t.sh w3 (by simpa using HB3.out) (sh_some t)).mono ?_
    rintro e w4 ⟨rfl, hb4⟩
    have HB4 := Lib.hid hb4
    clear hb4
    go_wp2
    go_ret
    exact ⟨by unfold shownD; rw [if_pos hr]; rfl, (held_below H1.out).trans ((((Below.refl _ w1).alloc (Nat.le_refl _) _).trans (HL3.out.trans HB4.out)).mono (by omega))⟩
set_option maxHeartbeats 4000000 in
set_option maxRecDepth 100000 in
theorem sfile_any (c : List Tm) (t : Tm) (w : World) (cv s : Value) (hc : Lies w c cv) (hl : Lies w t.kids s) (hT : Tab w) (hz : sizes c + t.size ≤ 1000000) :
    Calls Tryd.prog 10 #[fv cv t s] w fun e w' => e = .returned (.string ⟨(shownF c t).toArray⟩) ∧ Below w.heap.size w w' := by
  obtain ⟨a1, c1, S1, rfl, hcc, hcm, -, hn, hk⟩ := hc.out
  obtain ⟨a2, c2, S2, rfl, -⟩ := hl.out
  have HH := Lib.hid (show HeldF w (.slice a1 c.length c1) t.k t.i (.slice a2 t.kids.length c2) (w.alloc (fileO (.slice a1 c.length c1) t.k t.i (.slice a2 t.kids.length c2))) from Below.refl _ _)
  have HC := Lib.hid (heldF_lies HH.out hc)
  have HL := Lib.hid (heldF_lies HH.out hl)
  have HT := Lib.hid hT
  have HN := Lib.hid hn
  have HK := Lib.hid hk
  unfold maxLen at hcm
  clear hl hT hc hn hk
  unfold fv
  go_enter Tryd.func10, Tryd.ntmps10
  go_upto_region 1 with fail
  obtain ⟨wB, hwB⟩ : ∃ wB, wB = w.alloc (fileO (.slice a1 c.length c1) t.k t.i (.slice a2 t.kids.length c2)) := ⟨_, rfl⟩
  rw [← hwB] at HH HC HL
  rw [← hwB]
  clear hwB
  obtain ⟨y0, y1, y2, y3⟩ := four_cells (heldF_at HH.out)
  cases hr : t.rightB with
  | false =>
    go_wp2_with fail
    refine (dright_any t _ _ HL.out).mono ?_
    rintro e w1 ⟨rfl, hb1⟩
    rw [hr]
    have HB1 := Lib.hid (heldF_below (heldF_call HH.out hb1))
    clear hb1
    go_wp2
    go_ret
    exact ⟨by unfold shownF; rw [if_neg (by rw [hr]; simp)]; rfl, HB1.out⟩
  | true =>
    go_wp2_with fail
    refine (dright_any t _ _ HL.out).mono ?_
    rintro e w1 ⟨rfl, hb1⟩
    rw [hr]
    have H1 := Lib.hid (heldF_call HH.out hb1)
    have HC1 := Lib.hid (HC.out.keep hb1)
    have HL1 := Lib.hid (HL.out.keep hb1)
    have HT1 := Lib.hid (tab_up HT.out (heldF_below H1.out))
    have HW1 := Lib.hid (heldF_below H1.out)
    have HF1 := Lib.hid (heldF_at H1.out)
    have hlt1 : w.heap.size < w1.heap.size := hltD HF1.out
    have HS := Lib.hid (show WSt w1 w1.heap.size (w1.alloc (.cells #[.pointer none, .slice none 0 0] 51)) [] (w1.alloc (.cells #[.pointer none, .slice none 0 0] 51)) from ⟨Lib.fresh_isBuilder _ _ w1, (Below.refl _ w1).alloc (Nat.le_refl _) _, Kept.refl _ _, Below.refl _ _⟩)
    have HFB := Lib.hid (show (w1.alloc (.cells #[.pointer none, .slice none 0 0] 51)).heap[w.heap.size]? = some (fileO (.slice a1 c.length c1) t.k t.i (.slice a2 t.kids.length c2)) from by rw [Lib.alloc_old _ _ _ hlt1]; exact HF1.out)
    have hne : w.heap.size ≠ w1.heap.size := by omega
    clear hb1 y0 y1 y2 y3 HH HC HL
    go_upto_region 4 with fail
    obtain ⟨V, hV⟩ : ∃ V, V = w1.alloc (.cells #[.pointer none, .slice none 0 0] 51) := ⟨_, rfl⟩
    rw [← hV] at HS HFB
    rw [← hV]
    clear hV
    go_wp2_with fail
    refine (bstr_any _ w1.heap.size _ _ _ HS.out.bld (by decide) HS.out.hB).mono ?_
    rintro e w2 ⟨rfl, hb2, hl2, hk2⟩
    have h2 := HS.out.put hb2 hl2 hk2
    rw [show (⟨#[40, 102, 105, 108, 101, 32, 40]⟩ : ByteArray) = ⟨headF.toArray⟩ from rfl, Lib.strCells_toArray, List.nil_append] at h2
    have HS2 := Lib.hid h2
    clear hb2 hl2 hk2 h2
    have hfb := HS2.out.at HFB.out hne uf_ne
    obtain ⟨y0, y1, y2, y3⟩ := four_cells hfb
    clear hfb
    go_wp2_with fail
    clear y0 y1 y2 y3
    go_loopw [14] (fun i wv => ∃ q : Nat, q ≤ c.length ∧ i = .int .i64 q ∧ Hid (rights (c.take q) = true) ∧ Hid (WSt w1 w1.heap.size V (Lib.byteCells (headF ++ ctxL (c.take q))) wv)) (fun i _ => c.length - (intOf i).toNat)
    case atStart => exact ⟨0, Nat.zero_le _, rfl, rfl, by have h := HS2.out; simp only [List.take_zero, ctxL, List.append_nil]; exact h⟩
    case round =>
      clear HS2
      obtain ⟨q, hq, rfl, hrq, hv⟩ := hrel
      have HV := Lib.hid hv.out
      have HRQ := Lib.hid hrq.out
      clear hv hrq
      by_cases hlt : q < c.length
      · obtain ⟨bn, oo, rfl, hx⟩ := HN.out q hlt
        obtain ⟨e0, e1, e2⟩ := hx.below (HW1.out.trans (HV.out.low.mono (Nat.le_of_lt hlt1))) hx.lt
        have hq4 := HK.out q hlt
        obtain ⟨a', cap', S', hS, -⟩ := hq4.out
        rw [hS] at e2 hq4
        have HQ := Lib.hid (hq4.keep HW1.out)
        have HM := Lib.hid (List.getElem_mem hlt)
        have HRM := Lib.hid (ctx_room HRQ.out hlt)
        have HTK := Lib.hid (ctx_take c q hlt)
        have HRT := Lib.hid (rights_take c q hlt)
        have HNR := Lib.hid (fun h => rights_false hlt h)
        have HV5 := Lib.hid (HV.out.call (wr' := wr.alloc (.cells #[.int .i64 c[q].k, .int .i64 c[q].i, .slice a' c[q].kids.length cap'] 24)) ((Below.refl _ _).alloc (Nat.le_refl _) _))
        have hq5 := HQ.out.keep HV5.out.low
        have HR5 := Lib.hid (dright_any c[q] _ _ hq5)
        have HV5a := Lib.hid HV5.out.again
        have hsv : w1.heap.size < wr.heap.size := isB_lt HV.out.bld
        clear hS hq4 hx hq5
        cases hrk : (c[q]).rightB with
        | false =>
          go_wp2_with fail
          refine HR5.out.mono ?_
          rintro e w3 ⟨rfl, hb3⟩
          rw [hrk]
          have HB3 := Lib.hid (HW1.out.trans ((HV5.out.call hb3).low.mono (Nat.le_of_lt hlt1)))
          clear hb3 e0 e1 e2
          go_wp2
          go_ret
          exact ⟨by unfold shownF; rw [HNR.out hrk, if_neg (by simp)]; rfl, HB3.out⟩
        | true =>
          go_wp2_with fail
          refine HR5.out.mono ?_
          rintro e w3 ⟨rfl, hb3⟩
          rw [hrk]
          have HS3 := Lib.hid (HV5a.out.call hb3)
          clear hb3 e0 e1 e2
          have hwq : IntKind.i64.wrap ((q : Int) + 1) = (q : Int) + 1 := IntWalk.i64_in _ (by omega)
          by_cases hq0 : 0 < q
          · have hq0' : (0 : Int) < (q : Int) := by omega
            have hqd : decide ((0 : Int) < (q : Int)) = true := decide_eq_true hq0'
            have HTE := Lib.hid (show ctxL (c.take (q + 1)) = ctxL (c.take q) ++ [32] ++ (c[q]).sh by rw [HTK.out, if_pos hq0])
            clear hq0
            go_wp2_with fail
            refine (bbyte_any _ w1.heap.size _ _ _ HS3.out.bld (by have := HRM.out; simp [Lib.byteCells, headF]; omega) HS3.out.hB).mono ?_
            rintro e w6 ⟨rfl, hb6, hl6, hk6⟩
            have HS6 := Lib.hid (HS3.out.put hb6 hl6 hk6)
            clear hb6 hl6 hk6
            obtain ⟨y0, y1, y2⟩ := HS6.out.cells (x := wr.heap.size) (alloc_new _ _) (by omega)
            go_wp2_with fail
            refine ((sput_any w1 HT1.out w1.heap.size c[q]).use _ _ _ HQ.out HS6.out.low HS6.out.bld hrk (by have := HRM.out; simp [Lib.byteCells, headF]; omega)).mono ?_
            rintro e w8 ⟨rfl, hb8, hl8, hk8⟩
            have HS8 := Lib.hid (HV.out.over (HS6.out.put hb8 hl8 hk8))
            clear hb8 hl8 hk8 y0 y1 y2
            go_wp2_with fail
            go_roundw
            case rel => exact ⟨q + 1, hlt, by go_num, by show _ = true; rw [HRT.out, HRQ.out, hrk]; rfl, by have h := HS8.out; rw [HTE.out]; simpa [Lib.byteCells, Hid] using h⟩
            case measure => simp [intOf]; omega
          · obtain rfl : q = 0 := by omega
            have HTE := Lib.hid (show ctxL (c.take (0 + 1)) = ctxL (c.take 0) ++ (c[0]).sh by rw [HTK.out, if_neg (by omega), List.append_nil])
            have hqd : decide ((0 : Int) < ((0 : Nat) : Int)) = false := rfl
            obtain ⟨y0, y1, y2⟩ := HS3.out.cells (x := wr.heap.size) (alloc_new _ _) (by omega)
            go_wp2_with fail
            refine ((sput_any w1 HT1.out w1.heap.size c[0]).use _ _ _ HQ.out HS3.out.low HS3.out.bld hrk (by have := HRM.out; simp [Lib.byteCells, headF, ctxL]; omega)).mono ?_
            rintro e w8 ⟨rfl, hb8, hl8, hk8⟩
            have HS8 := Lib.hid (HV.out.over (HS3.out.put hb8 hl8 hk8))
            clear hb8 hl8 hk8 y0 y1 y2
            go_wp2_with fail
            go_roundw
            case rel => exact ⟨0 + 1, hlt, by go_num, by show _ = true; rw [HRT.out, HRQ.out, hrk]; rfl, by have h := HS8.out; rw [HTE.out]; simpa [Lib.byteCells, Hid] using h⟩
            case measure => simp [intOf]; omega
      · obtain rfl : q = c.length := by omega
        rw [List.take_length] at HV HRQ
        have HLC := Lib.hid (ctx_len HRQ.out)
        have HLT := Lib.hid (sh_len t hr)
        go_wp2_with fail
        refine (bstr_any _ w1.heap.size _ _ _ HV.out.bld (by have := HLC.out; simp [Lib.byteCells, headF, ByteArray.size]; omega) HV.out.hB).mono ?_
        rintro e w5 ⟨rfl, hb5, hl5, hk5⟩
        have h5 := HV.out.put hb5 hl5 hk5
        rw [show (⟨#[41, 32]⟩ : ByteArray) = ⟨[(41 : UInt8), 32].toArray⟩ from rfl, Lib.strCells_toArray] at h5
        have HS5 := Lib.hid h5
        clear hb5 hl5 hk5 h5
        have hfb := HS5.out.at HFB.out hne uf_ne
        obtain ⟨y0, y1, y2, y3⟩ := four_cells hfb
        clear hfb
        go_wp2_with fail
        refine ((sput_any w1 HT1.out w1.heap.size t).use _ _ _ HL1.out HS5.out.low HS5.out.bld hr (by have := HLC.out; simp [Lib.byteCells, headF]; omega)).mono ?_
        rintro e w6 ⟨rfl, hb6, hl6, hk6⟩
        have HS6 := Lib.hid (HS5.out.put hb6 hl6 hk6)
        clear hb6 hl6 hk6 y0 y1 y2 y3
        go_wp2_with fail
        refine (bstr_any _ w1.heap.size _ _ _ HS6.out.bld (by have := HLC.out; have := HLT.out; simp [Lib.byteCells, headF, ByteArray.size]; omega) HS6.out.hB).mono ?_
        rintro e w7 ⟨rfl, hb7, hl7, hk7⟩
        have HS7 := Lib.hid (HS6.out.put hb7 hl7 hk7)
        have HB7 := Lib.hid (show BAt w1.heap.size w1.heap.size (.pointer (some ⟨w1.heap.size, 0, none⟩)) (Lib.byteCells (fileL c t)) w7 from by
          have h := hb7
          rw [show (⟨#[41, 10]⟩ : ByteArray) = ⟨[(41 : UInt8), 10].toArray⟩ from rfl, Lib.strCells_toArray] at h
          rw [file_text]
          simpa [Lib.byteCells] using h)
        clear hb7 hl7 hk7
        go_wp2_with fail
        refine (btext_any _ _ _ (fileL c t) w7 HB7.out (by unfold fileL; simp)).mono ?_
        rintro e w8 ⟨rfl, hb8⟩
        have HB8 := Lib.hid hb8
        clear hb8
        go_wp2
        go_ret
        exact ⟨by unfold shownF; rw [if_pos ⟨HRQ.out, hr⟩]; rfl, HW1.out.trans ((HS7.out.low.trans HB8.out).mono (Nat.le_of_lt hlt1))⟩
end Go.Proofs.YtdhfbphliejcdaaDoor.Dv

namespace Go.Proofs.YtdhfbphliejcdaaDoor.Dv
open Go.RowKit

def Weighed (t : Tm) (most deep : Int) (w : World) (e : Ending) (w' : World) : Prop :=
  ∃ r : Int, e = .returned (.int .i64 r) ∧ 1 ≤ r ∧ r ≤ most + 1 ∧ (r ≤ most → r = t.size ∧ (t.deep : Int) ≤ deep + 1) ∧ Below w.heap.size w w'

set_option maxHeartbeats 800000 in
theorem dweigh_any (t : Tm) : ∀ (w : World) (s : Value) (most deep : Int), Lies w t.kids s → 0 ≤ most → most ≤ 100000 → -1 ≤ deep → deep ≤ 100000 →
    Calls Tryd.prog 20 #[tv t s, .int .i64 most, .int .i64 deep] w (Weighed t most deep w) := by
  induction t using Tm.ind with
  | h t ih =>
    intro w s most deep hl h0 h1 h2 h3
    obtain ⟨a, cap, S, rfl, hc, hm, hf, hn, hk⟩ := hl.out
    unfold tv
    have hsz := t.size_eq
    have hdp := t.deep_eq
    unfold maxLen at hm
    have IH := Lib.hid ih
    have HN := Lib.hid hn
    have HK := Lib.hid hk
    have HSZ := Lib.hid hsz
    have HDP := Lib.hid hdp
    clear ih hn hk hf hl hsz hdp
    by_cases hd : deep < 0
    · go_enter Tryd.func20, Tryd.ntmps20
      go_wp2
      go_ret
      exact ⟨most + 1, rfl, by omega, by omega, fun h => by omega, (Below.refl _ _).alloc (Nat.le_refl _) _⟩
    go_enter Tryd.func20, Tryd.ntmps20
    have hcell : ∀ (wr : World), Below (w.heap.size + 1) (w.alloc (.cells #[.int .i64 t.k, .int .i64 t.i, .slice a t.kids.length cap] 24)) wr → wr.cell? ⟨w.heap.size, 2, none⟩ = some (.slice a t.kids.length cap) := fun wr h => by
      rw [h.cell (p := ⟨w.heap.size, 2, none⟩) (by exact Nat.lt_succ_self _), World.cell?_alloc_at _ _ _ _ rfl]; rfl
    have HC := Lib.hid hcell
    clear hcell
    go_wp2
    go_loopw [7, 8] (fun nv iv wr => ∃ (k : Nat) (n : Int), k ≤ t.kids.length ∧ iv = .int .i64 k ∧ nv = .int .i64 n ∧ 1 ≤ n ∧ n ≤ most + 1 ∧ Hid (n ≤ most → n = ((1 + sizes (t.kids.take k) : Nat) : Int) ∧ (deeps (t.kids.take k) : Int) ≤ deep) ∧
        Below (w.heap.size + 1) (w.alloc (.cells #[.int .i64 t.k, .int .i64 t.i, .slice a t.kids.length cap] 24)) wr) (fun _ i _ => t.kids.length - (intOf i).toNat)
    case atStart => exact ⟨0, 1, Nat.zero_le _, rfl, rfl, by omega, by omega, fun _ => ⟨by simp [sizes], by simp [deeps]; omega⟩, Below.refl _ _⟩
    case round =>
      obtain ⟨k, n, hk, rfl, rfl, hn1, hn2, hrel, hb⟩ := hrel
      have hc4 := HC.out wr hb
      have hb0 : Below w.heap.size w wr := ((Below.refl _ _).alloc (Nat.le_refl _) _).trans (hb.mono (by omega))
      by_cases hlt : k < t.kids.length
      · by_cases hnm : n ≤ most
        · obtain ⟨b, o, rfl, hx⟩ := HN.out k hlt
          have hy := hx.below hb0 hx.lt
          obtain ⟨c0, c1, c2⟩ := hy
          have hq := HK.out k hlt
          obtain ⟨a', cap', S', hS, -⟩ := hq.out
          rw [hS] at c2 hq
          have HQ := Lib.hid (hq.keep hb0)
          clear hS hq
          have HM := Lib.hid (List.getElem_mem hlt)
          have HT := Lib.hid (sizes_take t.kids k hlt)
          have HT2 := Lib.hid (deeps_take t.kids k hlt)
          go_wp2_with fail
          refine (IH.out _ HM.out _ _ _ _ HQ.out (by omega) (by omega) (by omega) (by omega)).mono ?_
          rintro e w' ⟨r, rfl, hr1, hr2, hr3, hb'⟩
          have HR3 := Lib.hid hr3
          have HB' := hb.trans (hb'.mono (by have := hb.size; simpa using this))
          clear hb' hb hb0 hc4 hr3
          go_wp2
          go_roundw
          case rel =>
            refine ⟨k + 1, n + r, by omega, by go_num, rfl, by omega, by omega, ?_, HB'⟩
            intro hle
            obtain ⟨e1, e2⟩ := hrel.out hnm
            obtain ⟨e3, e4⟩ := HR3.out (by omega)
            rw [HT.out, HT2.out, e1, e3]
            exact ⟨by simp; omega, by omega⟩
          case measure => simp [intOf]; omega
        · go_wp2
          go_ret
          exact ⟨n, rfl, by omega, by omega, fun h => absurd h (by omega), hb0⟩
      · have : k = t.kids.length := by omega
        subst this
        go_wp2
        all_goals go_ret
        all_goals
          refine ⟨n, rfl, by omega, by omega, fun h => ?_, hb0⟩
          obtain ⟨e1, e2⟩ := hrel.out h
          rw [List.take_length] at e1 e2
          rw [HSZ.out, HDP.out]
          exact ⟨by rw [e1]; simp; omega, by omega⟩

def NotGreat (t : Tm) (most : Int) (w : World) (e : Ending) (w' : World) : Prop :=
  ∃ g : Bool, e = .returned (.bool g) ∧ (g = false → (t.size : Int) ≤ most ∧ t.deep ≤ 201) ∧ Below w.heap.size w w'

set_option maxHeartbeats 800000 in
theorem dgreat_any (t : Tm) (w : World) (s : Value) (most : Int) (hl : Lies w t.kids s) (h0 : 0 ≤ most) (h1 : most ≤ 100000) :
    Calls Tryd.prog 18 #[tv t s, .int .i64 most] w (NotGreat t most w) := by
  obtain ⟨a, cap, S, hs, -⟩ := hl.out
  subst hs
  have HB : Below w.heap.size w (w.alloc (.cells #[.int .i64 t.k, .int .i64 t.i, .slice a t.kids.length cap] 24)) := (Below.refl _ _).alloc (Nat.le_refl _) _
  have HL := Lib.hid (hl.keep HB)
  clear hl
  unfold tv
  go_enter Tryd.func18, Tryd.ntmps18
  go_wp2_with fail
  refine (dweigh_any t _ _ _ _ HL.out h0 h1 (by omega) (by omega)).mono ?_
  rintro e w' ⟨r, rfl, hr1, hr2, hr3, hb'⟩
  have HR3 := Lib.hid hr3
  have HB' := HB.trans (hb'.mono HB.size)
  clear hr3 hb' HB
  go_wp2
  go_ret
  refine ⟨_, rfl, fun h => ?_, HB'⟩
  have hrm : r ≤ most := by simpa using h
  obtain ⟨e3, e4⟩ := HR3.out hrm
  omega
end Go.Proofs.YtdhfbphliejcdaaDoor.Dv

namespace Go.Proofs.YtdhfbphliejcdaaDoor.Dv
open Go.RowKit

/-- The four results as they stand. -/
structure Four (B : Nat) (w : World) : Prop where
  f : ∃ v0 v1 v2 v3, w.heap[B]? = some (.cells #[v0, v1, v2, v3] 26 (0, 0))
  e : ∃ x, w.heap[B + 1]? = some (.cells #[x] 34 (0, 0))
  a : ∃ x, w.heap[B + 2]? = some (.cells #[x] 3 (0, 0))
  s : ∃ x, w.heap[B + 3]? = some (.cells #[x] 9 (0, 0))
end Go.Proofs.YtdhfbphliejcdaaDoor.Dv

namespace Go.Proofs.YtdhfbphliejcdaaDoor.Dv
open Go.RowKit

theorem Four.keep {B : Nat} {w w' : World} (h : Four B w) (hb : Below (B + 4) w w') : Four B w' := by
  obtain ⟨⟨v0, v1, v2, v3, h0⟩, ⟨x, h1⟩, ⟨y, h2⟩, ⟨z, h3⟩⟩ := h
  exact ⟨⟨v0, v1, v2, v3, (hb.block _ (by omega)).trans h0⟩, ⟨x, (hb.block _ (by omega)).trans h1⟩, ⟨y, (hb.block _ (by omega)).trans h2⟩, ⟨z, (hb.block _ (by omega)).trans h3⟩⟩
theorem Four.put {B : Nat} {w : World} (h : Four B w) (v0 v1 v2 v3 : Value) : Four B (four w B v0 v1 v2 v3) := by
  obtain ⟨⟨z0, z1, z2, z3, h0⟩, ⟨x, h1⟩, ⟨y, h2⟩, ⟨z, h3⟩⟩ := h
  have c4 : w.grownBy (four w B v0 v1 v2 v3) (some B) := (((setD_grown _ _ _ _).trans (setD_grown _ _ _ _)).trans (setD_grown _ _ _ _)).trans (setD_grown _ _ _ _)
  exact ⟨⟨_, _, _, _, four_set h0⟩, ⟨x, (c4.block _ (hltD h1) (fun e => by have := Option.some.inj e; omega)).trans h1⟩, ⟨y, (c4.block _ (hltD h2) (fun e => by have := Option.some.inj e; omega)).trans h2⟩, ⟨z, (c4.block _ (hltD h3) (fun e => by have := Option.some.inj e; omega)).trans h3⟩⟩
end Go.Proofs.YtdhfbphliejcdaaDoor.Dv

namespace Go.Proofs.YtdhfbphliejcdaaDoor.Dv
open Go.RowKit

mutual
def sameB : Tm → Tm → Bool
  | .mk k i l, .mk k' i' l' => (k == k') && ((i == i') && samesB l l')
def samesB : List Tm → List Tm → Bool
  | [], [] => true
  | x :: r, y :: s => sameB x y && samesB r s
  | [], _ :: _ => false
  | _ :: _, [] => false
end

theorem sameB_eq (a b : Tm) : sameB a b = ((a.k == b.k) && ((a.i == b.i) && samesB a.kids b.kids)) := by
  cases a; cases b; simp only [sameB]; rfl

theorem samesB_length : ∀ {l m : List Tm}, samesB l m = true → l.length = m.length
  | [], [], _ => rfl
  | x :: r, y :: s, h => by simp only [samesB, Bool.and_eq_true] at h; simp [samesB_length h.2]
  | [], _ :: _, h => by simp [samesB] at h
  | _ :: _, [], h => by simp [samesB] at h

theorem sameB_true (a : Tm) : ∀ b, sameB a b = true → a = b := by
  induction a using Tm.ind with
  | h a ih =>
    intro b h
    rw [sameB_eq] at h
    simp only [Bool.and_eq_true, beq_iff_eq] at h
    have key : ∀ (l m : List Tm), (∀ x ∈ l, ∀ b, sameB x b = true → x = b) → samesB l m = true → l = m := by
      intro l
      induction l with
      | nil => intro m _ h; cases m with
        | nil => rfl
        | cons y s => simp [samesB] at h
      | cons x r ihl => intro m hx h; cases m with
        | nil => simp [samesB] at h
        | cons y s =>
          simp only [samesB, Bool.and_eq_true] at h
          rw [hx x List.mem_cons_self y h.1, ihl s (fun z hz => hx z (List.mem_cons_of_mem _ hz)) h.2]
    have hk := key a.kids b.kids ih h.2.2
    rw [← a.eta, ← b.eta, h.1, h.2.1, hk]

theorem sameB_self (a : Tm) : sameB a a = true := by
  induction a using Tm.ind with
  | h a ih =>
    rw [sameB_eq]
    have key : ∀ (l : List Tm), (∀ x ∈ l, sameB x x = true) → samesB l l = true := by
      intro l
      induction l with
      | nil => intro _; simp [samesB]
      | cons x r ihl => intro hx; simp only [samesB, hx x List.mem_cons_self, Bool.true_and]; exact ihl (fun z hz => hx z (List.mem_cons_of_mem _ hz))
    simp [key a.kids ih]

theorem sames_take : ∀ (l m : List Tm) (k : Nat) (h : k < l.length) (h' : k < m.length), samesB (l.take (k + 1)) (m.take (k + 1)) = (samesB (l.take k) (m.take k) && sameB l[k] m[k])
  | x :: r, y :: s, 0, _, _ => by simp [samesB]
  | x :: r, y :: s, k + 1, h, h' => by
    simp only [List.take_succ_cons, samesB, List.getElem_cons_succ]
    rw [sames_take r s k (by simpa using h) (by simpa using h'), Bool.and_assoc]

theorem sames_of : ∀ (l m : List Tm) (k : Nat) (h : k < l.length) (h' : k < m.length), sameB l[k] m[k] = false → samesB l m = false
  | x :: r, y :: s, 0, _, _, hs => by simp only [List.getElem_cons_zero] at hs; simp [samesB, hs]
  | x :: r, y :: s, k + 1, h, h', hs => by
    simp only [List.getElem_cons_succ] at hs
    simp [samesB, sames_of r s k (by simpa using h) (by simpa using h') hs]

theorem sames_ne {l m : List Tm} (h : l.length ≠ m.length) : samesB l m = false := by
  cases hs : samesB l m with
  | false => rfl
  | true => exact absurd (samesB_length hs) h

/-- Two boxed terms, and what is new beside them. -/
def Held2 (w : World) (a : Tm) (s : Value) (b : Tm) (r : Value) (w' : World) : Prop := Below (w.heap.size + 2) ((w.alloc (boxOf a s)).alloc (boxOf b r)) w'

theorem held2_start (w : World) (a : Tm) (s : Value) (b : Tm) (r : Value) : Held2 w a s b r ((w.alloc (.cells #[.int .i64 a.k, .int .i64 a.i, s] 24)).alloc (.cells #[.int .i64 b.k, .int .i64 b.i, r] 24)) := Below.refl _ _
theorem held2_first {w w' : World} {a b : Tm} {s r : Value} (h : Held2 w a s b r w') : Held w a s w' := by
  unfold Held2 at h; unfold Held
  exact ((Below.refl _ _).alloc (by simp) _).trans (h.mono (by omega))
theorem held2_call {w w1 w2 : World} {a b : Tm} {s r : Value} (h : Held2 w a s b r w1) (hb : Below w1.heap.size w1 w2) : Held2 w a s b r w2 :=
  below_call h hb (by have := h.size; simpa using this)
theorem held2_below {w w1 : World} {a b : Tm} {s r : Value} (h : Held2 w a s b r w1) : Below w.heap.size w w1 := held_below (held2_first h)
theorem held2_lies {w w1 : World} {a b : Tm} {s r s' : Value} {l : List Tm} (h : Held2 w a s b r w1) (hl : Lies w l s') : Lies w1 l s' := hl.keep (held2_below h)
end Go.Proofs.YtdhfbphliejcdaaDoor.Dv

namespace Go.Proofs.YtdhfbphliejcdaaDoor.Dv
open Go.RowKit

set_option maxHeartbeats 1000000 in
theorem dterms_of (l : List Tm) (ih : ∀ x ∈ l, ∀ (y : Tm) (w : World) (s r : Value), Lies w x.kids s → Lies w y.kids r → Calls Tryd.prog 19 #[tv x s, tv y r] w fun e w' => e = .returned (.bool (sameB x y)) ∧ Below w.heap.size w w')
    (m : List Tm) (w : World) (s r : Value) (hl : Lies w l s) (hm : Lies w m r) : Calls Tryd.prog 34 #[s, r] w fun e w' => e = .returned (.bool (samesB l m)) ∧ Below w.heap.size w w' := by
  obtain ⟨a, cap, S, rfl, hc, hmx, -, hn, hk⟩ := hl.out
  obtain ⟨a2, cap2, S2, rfl, hc2, hmx2, -, hn2, hk2⟩ := hm.out
  unfold maxLen at hmx hmx2
  have IH := Lib.hid ih
  have HN := Lib.hid hn
  have HK := Lib.hid hk
  have HN2 := Lib.hid hn2
  have HK2 := Lib.hid hk2
  clear ih hn hk hn2 hk2 hl hm
  by_cases hlen : l.length = m.length
  rotate_left
  · have h1 : ((l.length : Int) == (m.length : Int)) = false := by simp; omega
    have h2 : ((l.length : Int) != (m.length : Int)) = true := by simp; omega
    have HS := Lib.hid (sames_ne hlen)
    clear hlen
    go_enter Tryd.func34, Tryd.ntmps34
    go_wp2
    go_ret
    exact ⟨ret_bool HS.out.symm, Below.refl _ _⟩
  have h1 : ((l.length : Int) == (m.length : Int)) = true := by simp; omega
  have h2 : ((l.length : Int) != (m.length : Int)) = false := by simp; omega
  have HL := Lib.hid hlen
  clear hlen
  go_enter Tryd.func34, Tryd.ntmps34
  go_wp2
  go_loopw [5] (fun iv wr => ∃ k : Nat, k ≤ l.length ∧ iv = .int .i64 k ∧ Hid (samesB (l.take k) (m.take k) = true) ∧ Below w.heap.size w wr) (fun iv _ => l.length - (intOf iv).toNat)
  case atStart => exact ⟨0, Nat.zero_le _, rfl, by simp [Hid, samesB], Below.refl _ _⟩
  case round =>
    obtain ⟨k, hk, rfl, hgood, hb⟩ := hrel
    by_cases hlt : k < l.length
    · have hlt2 : k < m.length := by have := HL.out; omega
      obtain ⟨b, o, rfl, hx⟩ := HN.out k hlt
      obtain ⟨b2, o2, rfl, hx2⟩ := HN2.out k hlt2
      obtain ⟨c0, c1, c2⟩ := hx.below hb hx.lt
      obtain ⟨e0, e1, e2⟩ := hx2.below hb hx2.lt
      have hq := (HK.out k hlt).keep hb
      have hq2 := (HK2.out k hlt2).keep hb
      obtain ⟨a', cap', S', hS, -⟩ := hq.out
      obtain ⟨a2', cap2', S2', hS2, -⟩ := hq2.out
      rw [hS] at c2 hq
      rw [hS2] at e2 hq2
      have HQ := Lib.hid hq
      have HQ2 := Lib.hid hq2
      have HM := Lib.hid (List.getElem_mem hlt)
      have HT := Lib.hid (sames_take l m k hlt hlt2)
      have HO := Lib.hid (sames_of l m k hlt hlt2)
      clear hS hS2 hq hq2
      go_wp2
      go_region_with (go_at_call 19; refine (IH.out _ HM.out _ _ _ _ (HQ.out.keep (Below.refl _ _).drew) (HQ2.out.keep (Below.refl _ _).drew)).mono ?_; rintro e wn ⟨rfl, hb'⟩; have HB3 := below_call hb.drew hb' hb.size; clear hb')
      all_goals
        cases hs : sameB l[k] m[k]
        · go_wp2
          go_ret
          exact ⟨ret_bool (HO.out hs).symm, HB3⟩
        · go_wp2
          go_roundw
          case rel => exact ⟨k + 1, by omega, by go_num, by show _ = true; rw [HT.out, hgood.out, hs]; rfl, HB3⟩
          case measure => simp [intOf]; omega
    · have : k = l.length := by omega
      subst this
      go_wp2
      go_ret
      exact ⟨ret_bool (by have hg := hgood.out; rw [List.take_length, HL.out, List.take_length] at hg; exact hg.symm), hb⟩

set_option maxHeartbeats 1000000 in
theorem dkeepsame_any (t : Tm) : ∀ (u : Tm) (w : World) (s r : Value), Lies w t.kids s → Lies w u.kids r → Calls Tryd.prog 19 #[tv t s, tv u r] w fun e w' => e = .returned (.bool (sameB t u)) ∧ Below w.heap.size w w' := by
  induction t using Tm.ind with
  | h t ih =>
    intro u w s r hl hm
    obtain ⟨a, cap, S, rfl, -⟩ := hl.out
    obtain ⟨a2, cap2, S2, rfl, -⟩ := hm.out
    have HTM := Lib.hid (dterms_of t.kids ih)
    have HE := Lib.hid (sameB_eq t u)
    have HL := Lib.hid hl
    have HM := Lib.hid hm
    have H0 := held2_start w t (.slice a t.kids.length cap) u (.slice a2 u.kids.length cap2)
    clear hl hm ih
    unfold tv
    cases ek : (t.k == u.k)
    · go_enter Tryd.func19, Tryd.ntmps19
      go_wp2
      go_ret
      exact ⟨ret_bool (by rw [HE.out]; simp only [ek, Bool.false_and]), held2_below H0⟩
    cases ei : (t.i == u.i)
    · go_enter Tryd.func19, Tryd.ntmps19
      go_wp2
      go_ret
      exact ⟨ret_bool (by rw [HE.out]; simp only [ek, ei, Bool.false_and, Bool.true_and]), held2_below H0⟩
    go_enter Tryd.func19, Tryd.ntmps19
    go_wp2_with fail
    refine (HTM.out u.kids _ _ _ (held2_lies H0 HL.out) (held2_lies H0 HM.out)).mono ?_
    rintro e wn ⟨rfl, hb'⟩
    have H1 := held2_call H0 hb'
    clear hb'
    go_wp2
    go_ret
    exact ⟨ret_bool (by rw [HE.out]; simp only [ek, ei, Bool.true_and]), held2_below H1⟩
end Go.Proofs.YtdhfbphliejcdaaDoor.Dv

namespace Go.Proofs.YtdhfbphliejcdaaDoor.Dv
open Go.RowKit

theorem nil_lieS (w : World) : Lies w [] (.slice none 0 0) := .mk [] none 0 (fun _ => .nilIface) (Nat.le_refl _) (by decide) (fun _ h => by cases h) (fun _ h => absurd h (by simp)) (fun _ h => absurd h (by simp))
theorem one_lieS {w : World} {g : Nat} {k i : Int} (h : w.heap[g]? = some (.cells #[.int .i64 k, .int .i64 i, .slice none 0 0] 24)) (hf : (Tm.mk k i []).fine) : Lies w [.mk k i []] (.slice (some ⟨g, 0, none⟩) 1 1) := by
  obtain ⟨c0, c1, c2⟩ := five_cells h
  refine .mk [.mk k i []] (some ⟨g, 0, none⟩) 1 (fun _ => .slice none 0 0) (Nat.le_refl _) (by decide) (fun x hx => ?_) (fun j hj => ⟨g, 0, rfl, ?_⟩) (fun j hj => ?_)
  · rcases List.mem_cons.1 hx with rfl | hx
    · exact hf
    · cases hx
  · obtain rfl : j = 0 := by simpa using hj
    exact ⟨c0, c1, c2⟩
  · obtain rfl : j = 0 := by simpa using hj
    exact nil_lieS w
theorem wk14 : shownF [.mk 1 0 []] (.mk 2 0 []) = [40, 102, 105, 108, 101, 32, 40, 40, 115, 111, 114, 116, 32, 48, 41, 41, 32, 40, 118, 97, 114, 32, 48, 41, 41, 10] := by kernel_rfl
theorem wk14b : shownD (.mk 0 0 []) = [] := by kernel_rfl
set_option maxHeartbeats 2000000 in
set_option maxRecDepth 20000 in
theorem wakes14_any (w : World) (hT : Tab w) : Calls Tryd.prog 12 #[] w fun e w' => e = .returned (.bool true) ∧ Below w.heap.size w w' := by
  have hb1 := (Below.refl w.heap.size w).alloc (Nat.le_refl _) (.cells #[.int .i64 1, .int .i64 0, .slice none 0 0] 24)
  have hb2 := hb1.alloc hb1.size (.cells #[.slice (some ⟨w.heap.size, 0, none⟩) 1 1, .int .i64 2, .int .i64 0, .slice none 0 0] 26)
  have hg : ((w.alloc (.cells #[.int .i64 1, .int .i64 0, .slice none 0 0] 24)).alloc (.cells #[.slice (some ⟨w.heap.size, 0, none⟩) 1 1, .int .i64 2, .int .i64 0, .slice none 0 0] 26)).heap[w.heap.size]? = some (.cells #[.int .i64 1, .int .i64 0, .slice none 0 0] 24) := by rw [Lib.alloc_old _ _ _ (by simp)]; exact alloc_new _ _
  have hf : ((w.alloc (.cells #[.int .i64 1, .int .i64 0, .slice none 0 0] 24)).alloc (.cells #[.slice (some ⟨w.heap.size, 0, none⟩) 1 1, .int .i64 2, .int .i64 0, .slice none 0 0] 26)).heap[w.heap.size + 1]? = some (.cells #[.slice (some ⟨w.heap.size, 0, none⟩) 1 1, .int .i64 2, .int .i64 0, .slice none 0 0] 26) := by
    have h := alloc_new (w.alloc (.cells #[.int .i64 1, .int .i64 0, .slice none 0 0] 24)) (.cells #[.slice (some ⟨w.heap.size, 0, none⟩) 1 1, .int .i64 2, .int .i64 0, .slice none 0 0] 26)
    rwa [World.size_alloc] at h
  have HC := Lib.hid (one_lieS hg ⟨by show (-9223372036854775808 : Int) ≤ 1 ∧ (1 : Int) ≤ 9223372036854775807; decide, by show (-9223372036854775808 : Int) ≤ 0 ∧ (0 : Int) ≤ 9223372036854775807; decide⟩)
  have HB := Lib.hid hb2
  have HT := Lib.hid (tab_up hT hb2)
  obtain ⟨y0, y1, y2, y3⟩ := four_cells hf
  clear hb1 hb2 hg hf hT
  go_enter Tryd.func12, Tryd.ntmps12
  go_upto_region 2 with fail
  obtain ⟨W, hW⟩ : ∃ W, W = (w.alloc (.cells #[.int .i64 1, .int .i64 0, .slice none 0 0] 24)).alloc (.cells #[.slice (some ⟨w.heap.size, 0, none⟩) 1 1, .int .i64 2, .int .i64 0, .slice none 0 0] 26) := ⟨_, rfl⟩
  rw [← hW] at y0 y1 y2 y3 HC HB HT
  rw [← hW]
  clear hW
  go_wp2_with fail
  refine (sfile_any [.mk 1 0 []] (.mk 2 0 []) W _ _ HC.out (nil_lieS _) HT.out (by decide)).mono ?_
  rintro e w1 ⟨rfl, hb1⟩
  rw [wk14]
  have HB1 := Lib.hid (HB.out.trans (hb1.mono HB.out.size))
  have HT1 := Lib.hid (tab_up HT.out hb1)
  clear hb1 y0 y1 y2 y3
  go_wp2_with fail
  refine (sderiv_any (.mk 0 0 []) w1 _ (nil_lieS _) HT1.out (by decide)).mono ?_
  rintro e w2 ⟨rfl, hb2⟩
  rw [wk14b]
  have HB2 := Lib.hid (HB1.out.trans (hb2.mono HB1.out.size))
  clear hb2
  go_wp2
  go_ret
  exact ⟨rfl, HB2.out⟩
end Go.Proofs.YtdhfbphliejcdaaDoor.Dv

namespace Go.Proofs.YtdhfbphliejcdaaDoor.Dv
open Go.RowKit

theorem sh_bool {a b : Tm} (ha : a.rightB = true) (hb : b.rightB = true) : (a.sh == b.sh) = sameB a b := by
  by_cases h : a = b
  · subst h
    rw [sameB_self]
    exact beq_self_eq_true _
  · have h1 : sameB a b = false := by
      cases e : sameB a b with
      | false => rfl
      | true => exact absurd (sameB_true _ _ e) h
    rw [h1]
    exact beq_eq_false_iff_ne.2 (fun e => h ((sh_same ha hb).1 e))
/-- Two boxed derivations; else only what is new. -/
def HeldD2 (w : World) (t u : Tm) (s r : Value) (w' : World) : Prop := Below (w.heap.size + 2) ((w.alloc (boxOf t s)).alloc (boxOf u r)) w'
theorem heldD2_at {w w' : World} {t u : Tm} {s r : Value} (h : HeldD2 w t u s r w') : w'.heap[w.heap.size]? = some (boxOf t s) ∧ w'.heap[w.heap.size + 1]? = some (boxOf u r) := by
  refine ⟨(h.block _ (by omega)).trans ?_, (h.block _ (by omega)).trans ?_⟩
  · rw [Lib.alloc_old _ _ _ (by simp)]; exact alloc_new _ _
  · have h := alloc_new (w.alloc (boxOf t s)) (boxOf u r)
    rwa [World.size_alloc] at h
theorem heldD2_call {w w1 w2 : World} {t u : Tm} {s r : Value} (h : HeldD2 w t u s r w1) (hb : Below w1.heap.size w1 w2) : HeldD2 w t u s r w2 := Below.trans h (hb.mono (by have := h.size; simp at this; omega))
theorem heldD2_below {w w1 : World} {t u : Tm} {s r : Value} (h : HeldD2 w t u s r w1) : Below w.heap.size w w1 := (((Below.refl w.heap.size w).alloc (Nat.le_refl _) _).alloc (by simp) _).trans (h.mono (by omega))
set_option maxRecDepth 20000 in
set_option maxHeartbeats 4000000 in
theorem showUnlike_any (t u : Tm) (w : World) (s r : Value) (hl : Lies w t.kids s) (hm : Lies w u.kids r) (hT : Tab w) : Calls Tryd.prog 6 #[tv t s, tv u r] w fun e w' => e = .returned (.bool true) ∧ Below w.heap.size w w' := by
  obtain ⟨a1, c1, S1, rfl, -⟩ := hl.out
  obtain ⟨a2, c2, S2, rfl, -⟩ := hm.out
  have HH := Lib.hid (show HeldD2 w t u (.slice a1 t.kids.length c1) (.slice a2 u.kids.length c2) ((w.alloc (.cells #[.int .i64 t.k, .int .i64 t.i, .slice a1 t.kids.length c1] 24)).alloc (.cells #[.int .i64 u.k, .int .i64 u.i, .slice a2 u.kids.length c2] 24)) from Below.refl _ _)
  have HL0 := Lib.hid hl
  have HM0 := Lib.hid hm
  have HT0 := Lib.hid hT
  clear hl hT hm
  unfold tv
  go_enter Tryd.func6, Tryd.ntmps6
  go_upto_region 1 with fail
  obtain ⟨wB, hwB⟩ : ∃ wB, wB = (w.alloc (.cells #[.int .i64 t.k, .int .i64 t.i, .slice a1 t.kids.length c1] 24)).alloc (.cells #[.int .i64 u.k, .int .i64 u.i, .slice a2 u.kids.length c2] 24) := ⟨_, rfl⟩
  rw [← hwB] at HH
  rw [← hwB]
  clear hwB
  obtain ⟨x0, x1, x2⟩ := five_cells (heldD2_at HH.out).1
  obtain ⟨y0, y1, y2⟩ := five_cells (heldD2_at HH.out).2
  go_wp2_with fail
  refine (dgreat_any t wB _ 600 (HL0.out.keep (heldD2_below HH.out)) (by omega) (by omega)).mono ?_
  rintro e w1 ⟨g, rfl, hg, hb1⟩
  have H1 := Lib.hid (heldD2_call HH.out hb1)
  have HGR := Lib.hid hg
  clear hb1 hg x0 x1 x2 y0 y1 y2 HH
  obtain ⟨x0, x1, x2⟩ := five_cells (heldD2_at H1.out).1
  obtain ⟨y0, y1, y2⟩ := five_cells (heldD2_at H1.out).2
  cases g with
  | true =>
    go_wp2
    all_goals go_ret
    all_goals exact ⟨rfl, heldD2_below H1.out⟩
  | false =>
  have hz1 := (HGR.out rfl).1
  clear HGR
  go_wp2_with fail
  refine (dgreat_any u w1 _ 600 (HM0.out.keep (heldD2_below H1.out)) (by omega) (by omega)).mono ?_
  rintro e w2 ⟨g, rfl, hg, hb2⟩
  have H2 := Lib.hid (heldD2_call H1.out hb2)
  have HGR := Lib.hid hg
  clear hb2 hg x0 x1 x2 y0 y1 y2 H1
  obtain ⟨x0, x1, x2⟩ := five_cells (heldD2_at H2.out).1
  obtain ⟨y0, y1, y2⟩ := five_cells (heldD2_at H2.out).2
  cases g with
  | true =>
    go_wp2
    all_goals go_ret
    all_goals exact ⟨rfl, heldD2_below H2.out⟩
  | false =>
  have hz2 := (HGR.out rfl).1
  clear HGR
  go_wp2_with fail
  refine (drefright_any t w2 _ (HL0.out.keep (heldD2_below H2.out))).mono ?_
  rintro e w3 ⟨rfl, hb3⟩
  have H3 := Lib.hid (heldD2_call H2.out hb3)
  clear hb3 x0 x1 x2 y0 y1 y2 H2
  obtain ⟨x0, x1, x2⟩ := five_cells (heldD2_at H3.out).1
  obtain ⟨y0, y1, y2⟩ := five_cells (heldD2_at H3.out).2
  cases hrt : t.rightB with
  | false =>
    go_wp2
    all_goals go_ret
    all_goals exact ⟨rfl, heldD2_below H3.out⟩
  | true =>
  go_wp2_with fail
  refine (drefright_any u w3 _ (HM0.out.keep (heldD2_below H3.out))).mono ?_
  rintro e w4 ⟨rfl, hb4⟩
  have H4 := Lib.hid (heldD2_call H3.out hb4)
  clear hb4 x0 x1 x2 y0 y1 y2 H3
  obtain ⟨x0, x1, x2⟩ := five_cells (heldD2_at H4.out).1
  obtain ⟨y0, y1, y2⟩ := five_cells (heldD2_at H4.out).2
  cases hru : u.rightB with
  | false =>
    go_wp2
    all_goals go_ret
    all_goals exact ⟨rfl, heldD2_below H4.out⟩
  | true =>
  have HRT := Lib.hid hrt
  have HRU := Lib.hid hru
  have HL := Lib.hid (HL0.out.keep (heldD2_below H4.out))
  have HM := Lib.hid (HM0.out.keep (heldD2_below H4.out))
  have HT := Lib.hid (tab_up HT0.out (heldD2_below H4.out))
  have HB := Lib.hid (heldD2_below H4.out)
  have HBE := Lib.hid (sh_bool hrt hru)
  clear H4 HL0 HM0 HT0 hrt hru
  generalize w4 = W at HL HM HT HB x0 x1 x2 y0 y1 y2 ⊢
  obtain ⟨X, hX⟩ : ∃ X, t.sh = X := ⟨_, rfl⟩
  obtain ⟨Y, hY⟩ : ∃ Y, u.sh = Y := ⟨_, rfl⟩
  have HX := Lib.hid hX
  have HY := Lib.hid hY
  have hbe := HBE.out
  rw [hX, hY] at hbe
  clear hX hY HBE
  cases hq : sameB t u with
  | true =>
    have HQ := Lib.hid hq
    rw [hq] at hbe
    clear hq
    go_wp2_with fail
    have kq0 := cell_regrown x0
    have kq1 := cell_regrown x1
    have kq2 := cell_regrown x2
    have kq3 := cell_regrown y0
    have kq4 := cell_regrown y1
    have kq5 := cell_regrown y2
    have cA : ∀ d os, Calls Tryd.prog 8 #[tv t (.slice a1 t.kids.length c1)] (Go.Sort.grow (redrawn W d) os) fun e w'' => e = .returned (.string ⟨X.toArray⟩) ∧ ∃ p : Regrown, w'' = Go.Sort.grow (redrawn W p.d) p.os := fun d os => Calls.regrown_of ((sderiv_any t _ _ (HL.out.keep (below_regrown W d os)) (tab_up HT.out (below_regrown W d os)) (by omega)).mono fun e w' h => ⟨by rw [h.1]; unfold shownD; rw [if_pos HRT.out, HX.out], h.2⟩)
    have cB : ∀ d os, Calls Tryd.prog 8 #[tv u (.slice a2 u.kids.length c2)] (Go.Sort.grow (redrawn W d) os) fun e w'' => e = .returned (.string ⟨Y.toArray⟩) ∧ ∃ p : Regrown, w'' = Go.Sort.grow (redrawn W p.d) p.os := fun d os => Calls.regrown_of ((sderiv_any u _ _ (HM.out.keep (below_regrown W d os)) (tab_up HT.out (below_regrown W d os)) (by omega)).mono fun e w' h => ⟨by rw [h.1]; unfold shownD; rw [if_pos HRU.out, HY.out], h.2⟩)
    have cK : ∀ d os, Calls Tryd.prog 19 #[tv t (.slice a1 t.kids.length c1), tv u (.slice a2 u.kids.length c2)] (Go.Sort.grow (redrawn W d) os) fun e w'' => e = .returned (.bool true) ∧ ∃ p : Regrown, w'' = Go.Sort.grow (redrawn W p.d) p.os := fun d os => Calls.regrown_of ((dkeepsame_any t u _ _ _ (HL.out.keep (below_regrown W d os)) (HM.out.keep (below_regrown W d os))).mono fun e w' h => ⟨by rw [h.1, HQ.out], h.2⟩)
    have cW : ∀ d os, Calls Tryd.prog 12 #[] (Go.Sort.grow (redrawn W d) os) fun e w'' => e = .returned (.bool true) ∧ ∃ p : Regrown, w'' = Go.Sort.grow (redrawn W p.d) p.os := fun d os => Calls.regrown_of ((wakes14_any _ (tab_up HT.out (below_regrown W d os))).mono fun e w' h => h)
    refine wp_region_quiet_below (by kernel_rfl) (by kernel_rfl) ?_
    repeat (any_goals (first | go_big_quiet_step (first | with_reducible exact cA _ _ | with_reducible exact cB _ _ | with_reducible exact cK _ _ | with_reducible exact cW _ _) | quiet_step (first | with_reducible exact cA _ _ | with_reducible exact cB _ _ | with_reducible exact cK _ _ | with_reducible exact cW _ _)))
    refine wpQuiet_nil ?_
    intro _ hw'
    obtain ⟨⟨dq, osq⟩, hw''⟩ := hw'
    subst hw''
    have hbq := below_regrown W dq osq
    clear kq0 kq1 kq2 kq3 kq4 kq5 cA cB cK cW
    go_wp2
    go_ret
    exact ⟨rfl, HB.out.trans (hbq.mono HB.out.size)⟩
  | false =>
    have HQ := Lib.hid hq
    rw [hq] at hbe
    clear hq
    go_wp2_with fail
    have kq0 := cell_regrown x0
    have kq1 := cell_regrown x1
    have kq2 := cell_regrown x2
    have kq3 := cell_regrown y0
    have kq4 := cell_regrown y1
    have kq5 := cell_regrown y2
    have cA : ∀ d os, Calls Tryd.prog 8 #[tv t (.slice a1 t.kids.length c1)] (Go.Sort.grow (redrawn W d) os) fun e w'' => e = .returned (.string ⟨X.toArray⟩) ∧ ∃ p : Regrown, w'' = Go.Sort.grow (redrawn W p.d) p.os := fun d os => Calls.regrown_of ((sderiv_any t _ _ (HL.out.keep (below_regrown W d os)) (tab_up HT.out (below_regrown W d os)) (by omega)).mono fun e w' h => ⟨by rw [h.1]; unfold shownD; rw [if_pos HRT.out, HX.out], h.2⟩)
    have cB : ∀ d os, Calls Tryd.prog 8 #[tv u (.slice a2 u.kids.length c2)] (Go.Sort.grow (redrawn W d) os) fun e w'' => e = .returned (.string ⟨Y.toArray⟩) ∧ ∃ p : Regrown, w'' = Go.Sort.grow (redrawn W p.d) p.os := fun d os => Calls.regrown_of ((sderiv_any u _ _ (HM.out.keep (below_regrown W d os)) (tab_up HT.out (below_regrown W d os)) (by omega)).mono fun e w' h => ⟨by rw [h.1]; unfold shownD; rw [if_pos HRU.out, HY.out], h.2⟩)
    have cK : ∀ d os, Calls Tryd.prog 19 #[tv t (.slice a1 t.kids.length c1), tv u (.slice a2 u.kids.length c2)] (Go.Sort.grow (redrawn W d) os) fun e w'' => e = .returned (.bool false) ∧ ∃ p : Regrown, w'' = Go.Sort.grow (redrawn W p.d) p.os := fun d os => Calls.regrown_of ((dkeepsame_any t u _ _ _ (HL.out.keep (below_regrown W d os)) (HM.out.keep (below_regrown W d os))).mono fun e w' h => ⟨by rw [h.1, HQ.out], h.2⟩)
    have cW : ∀ d os, Calls Tryd.prog 12 #[] (Go.Sort.grow (redrawn W d) os) fun e w'' => e = .returned (.bool true) ∧ ∃ p : Regrown, w'' = Go.Sort.grow (redrawn W p.d) p.os := fun d os => Calls.regrown_of ((wakes14_any _ (tab_up HT.out (below_regrown W d os))).mono fun e w' h => h)
    refine wp_region_quiet_below (by kernel_rfl) (by kernel_rfl) ?_
    repeat (any_goals (first | go_big_quiet_step (first | with_reducible exact cA _ _ | with_reducible exact cB _ _ | with_reducible exact cK _ _ | with_reducible exact cW _ _) | quiet_step (first | with_reducible exact cA _ _ | with_reducible exact cB _ _ | with_reducible exact cK _ _ | with_reducible exact cW _ _)))
    refine wpQuiet_nil ?_
    intro _ hw'
    obtain ⟨⟨dq, osq⟩, hw''⟩ := hw'
    subst hw''
    have hbq := below_regrown W dq osq
    clear kq0 kq1 kq2 kq3 kq4 kq5 cA cB cK cW
    go_wp2
    go_ret
    exact ⟨rfl, HB.out.trans (hbq.mono HB.out.size)⟩
end Go.Proofs.YtdhfbphliejcdaaDoor.Dv

namespace Go.Proofs.YtdhfbphliejcdaaDoor
open Go.ChangeShapes Go.WideShapes Go.ChangeAt Go.RowKit

theorem own : ownKnob Tryd.prog.godebug = none := by kernel_rfl
theorem cells_int : Tryd.prog.cellsOf 3 = 1 := by kernel_rfl
theorem laidOut : laidOutB Tryd.prog = true := by kernel_rfl

instance instOpenTm : Inhabited (Tm × Value) := ⟨(.mk 0 0 0 0 [], .nilIface)⟩

end Go.Proofs.YtdhfbphliejcdaaDoor

namespace Go.Proofs.YtdhfbphliejcdaaDoor.Dv
open Go.ChangeShapes Go.WideShapes Go.ChangeAt Go.RowKit

theorem cells_kids : Tryd.prog.cellsOf 22 = 1 := by kernel_rfl
theorem cells_term : Tryd.prog.cellsOf 24 = 3 := by kernel_rfl
instance instOpenTm : Inhabited (Tm × Value) := ⟨(.mk 0 0 [], .nilIface)⟩
theorem list3 {α : Type} {l : List α} (h : l.length = 3) : ∃ a b c, l = [a, b, c] := by
  match l, h with
  | [a, b, c], _ => exact ⟨a, b, c, rfl⟩

set_option maxRecDepth 100000 in
theorem open_term {H : Type} {enc : TypeId × Value → H} {w : World} {base : Nat} {sp : Nat → Bool} {hd : Bool} : ∀ (fuel : Nat) (cs : List Value) (x : DataW H × List MemPlace),
    DataW.trod enc Tryd.prog w base sp hd fuel 24 cs = some x → ∃ (t : Tm) (s : Value), cs = [.int .i64 t.k, .int .i64 t.i, s] ∧ t.fine ∧ Lies w t.kids s := by
  intro fuel
  induction fuel using Nat.strongRecOn with
  | _ fuel ih =>
    intro cs x h
    obtain ⟨xs, n, rfl, rfl, hl, hlen, hf⟩ := DataW.trod_struct Tryd.underlying24 h
    rw [cells_term] at hl
    obtain ⟨v0, v1, v2, rfl⟩ := list3 hl
    obtain ⟨y0, y1, y2, rfl⟩ := list3 hlen
    have g0 := hf 0 _ rfl
    have g1 := hf 1 _ rfl
    have g2 := hf 2 _ rfl
    simp [cells_int, cells_kids] at g0 g1 g2
    obtain ⟨k, e0, -, w0⟩ := DataW.trod_int Tryd.underlying3 g0
    obtain ⟨i, e1, -, w1⟩ := DataW.trod_int Tryd.underlying3 g1
    simp at e0 e1
    subst e0 e1
    rcases DataW.trod_slice Tryd.underlying22 g2 with ⟨e4, -⟩ | ⟨a, len, cap, elems, rest, n', rfl, e4, -, hb, hlc, hm, hlen', hel, -, -⟩
    · simp at e4
      subst e4
      exact ⟨.mk k i [], _, rfl, ⟨wf_I64 w0, wf_I64 w1⟩, .mk [] none 0 (fun _ => .nilIface) (Nat.le_refl _) (by decide) (fun _ h => by cases h) (fun _ h => by cases h) (fun _ h => by cases h)⟩
    · simp at e4
      subst e4
      have key : ∀ i, i < len → ∃ p : Tm × Value, p.1.fine ∧ Lies w p.1.kids p.2 ∧ ∃ b o, a = ⟨b, o, none⟩ ∧ Node w b (o + i * 3) p.1 p.2 := by
        intro i hi
        have h1 := hel i hi
        rw [cells_term, List.getElem?_eq_getElem (by omega)] at h1
        obtain ⟨cs', h2, h3⟩ := Option.bind_eq_some_iff.1 h1
        obtain ⟨t, s, rfl, hfine, hlies⟩ := ih n' (by omega) _ _ h3
        obtain ⟨-, -, hcell⟩ := World.cells?_some h2
        have hs0 : a.spot = none := by
          have h1 := hel 0 (by omega)
          rw [cells_term, List.getElem?_eq_getElem (by omega)] at h1
          obtain ⟨cs0, h2, -⟩ := Option.bind_eq_some_iff.1 h1
          obtain ⟨-, hl0, hc0⟩ := World.cells?_some h2
          have c0 := hc0 0 (by omega)
          rw [List.getElem?_eq_getElem (by omega)] at c0
          simpa [Addr.add] using World.cell?_spot c0
        obtain ⟨b, o, spot⟩ := a
        simp only at hs0
        subst hs0
        refine ⟨(t, s), hfine, hlies, b, o, rfl, ?_⟩
        have hc : ∀ q, q < 3 → w.cell? ⟨b, o + i * 3 + q, none⟩ = [Value.int .i64 t.k, .int .i64 t.i, s][q]? := fun q hq => by
          have := hcell q hq
          rwa [add_plain, add_plain] at this
        exact ⟨hc 0 (by omega), hc 1 (by omega), hc 2 (by omega)⟩
      obtain ⟨f, hf'⟩ := Go.Deep.choose_lt (α := Tm × Value) (p := fun i p => p.1.fine ∧ Lies w p.1.kids p.2 ∧ ∃ b o, a = ⟨b, o, none⟩ ∧ Node w b (o + i * 3) p.1 p.2) key
      have hl5 : ((List.range len).map fun i => (f i).1).length = len := by simp
      refine ⟨.mk k i ((List.range len).map fun i => (f i).1), _, rfl, ⟨wf_I64 w0, wf_I64 w1⟩, ?_⟩
      have := Lies.mk (w := w) ((List.range len).map fun i => (f i).1) (some a) cap (fun i => (f i).2) (by simpa using hlc) hm
        (fun x hx => by
          obtain ⟨i, hi, rfl⟩ := List.mem_map.1 hx
          exact (hf' i (List.mem_range.1 hi)).1)
        (fun i hi => by
          obtain ⟨b, o, ha, hn⟩ := (hf' i (by simpa using hi)).2.2
          exact ⟨b, o, by rw [ha], by simpa using hn⟩)
        (fun i hi => by simpa using (hf' i (by simpa using hi)).2.1)
      rwa [hl5] at this
set_option maxRecDepth 100000 in
/-- The same for an argument. -/
theorem open_arg {H : Type} {enc : TypeId × Value → H} {W : World} {r : Reach} {b0 base : Nat} {sp : Nat → Bool} {hd : Bool} {v : Value} {d : DataW H} {p : List MemPlace} (hv : Value.okWide Tryd.prog W r b0 24 v)
    (h : DataW.Trod enc Tryd.prog W base sp hd 24 v d p) : ∃ (t : Tm) (s : Value), Lies W t.kids s ∧ v = tv t s := by
  obtain ⟨cs, rfl, hsz⟩ := okWide_struct Tryd.underlying24 hv
  obtain ⟨fuel, hf⟩ := h
  obtain ⟨t, s, hcs, -, hl⟩ := open_term fuel _ _ hf
  refine ⟨t, s, hl, ?_⟩
  have : cs.toList = [.int .i64 t.k, .int .i64 t.i, s] := by simpa [Value.cells] using hcs
  rw [show cs = #[.int .i64 t.k, .int .i64 t.i, s] from by cases cs; simp_all]

end Go.Proofs.YtdhfbphliejcdaaDoor.Dv

namespace Go.Proofs.YtdhfbphliejcdaaDoor
open Go.ChangeShapes Go.WideShapes Go.ChangeAt Go.WideMaps Go.WideElems Go.RowKit

def laidT : List (String × DataW Unit) := Rows.showExactRow.laid
theorem door_met (os : Os) (args : Array Value) : laidMetH Tryd.prog laidT ((World.doorLaid Tryd.prog 400 os).forCall (fun _ _ => 0) ⟨#[], args, []⟩).memory :=
  laidMetH_of_parts3 (fuel := 8) (laidMet_of_run' 8 (by kernel_rfl) (by kernel_rfl)) (by kernel_rfl) (by kernel_rfl)
theorem tab_of_laid {W : World} (h : laidMetH Tryd.prog laidT W) : Lib.TabIs Tryd.prog W "internal/strconv.uint64pow10" .u64 Lib.pow10Tab := by
  have h2 := h.filter fun x => x.1 == "internal/strconv.uint64pow10"
  have e : (laidT.filter fun x => x.1 == "internal/strconv.uint64pow10") = [("internal/strconv.uint64pow10", Lib.tabData .u64 Lib.pow10Tab)] := by kernel_rfl
  rw [e] at h2
  rw [MakeChecks.laidMetH_plain _ _ _ (by kernel_rfl)] at h2
  exact Lib.tabIs_of_head (g := 0) (t := 111) (e := 95) (n := 20) (by kernel_rfl) (by kernel_rfl) Tryd.underlying111 Tryd.underlying95 (by kernel_rfl) (by kernel_rfl) h2
theorem tabS_of_laid {W : World} (h : laidMetH Tryd.prog laidT W) : Tab W := Lib.tabBelow_of_tabIs (tab_of_laid h)
end Go.Proofs.YtdhfbphliejcdaaDoor

namespace Go.Proofs.YtdhfbphliejcdaaDoor
open Go.ChangeShapes Go.WideShapes

def code (l : List Nat) : List Char := l.map Char.ofNat
def joinN : List (List Nat) → List Nat
  | [] => []
  | [a] => a
  | a :: b :: r => a ++ 32 :: joinN (b :: r)

theorem words_one : ∀ a : List Nat, (a.all fun n => Char.ofNat n != Char.ofNat 32) = true → wordsSigns (code a) = [code a]
  | [], _ => rfl
  | n :: a, h => by
    simp only [List.all_cons, Bool.and_eq_true, bne_iff_ne] at h
    have ih := words_one a h.2
    show wordsSigns (Char.ofNat n :: code a) = _
    rw [wordsSigns]
    · rw [ih]; rfl
    · exact h.1
theorem words_more : ∀ (a : List Nat) (r : List Char), (a.all fun n => Char.ofNat n != Char.ofNat 32) = true → wordsSigns (code a ++ Char.ofNat 32 :: r) = code a :: wordsSigns r
  | [], r, _ => by
    show wordsSigns (Char.ofNat 32 :: r) = _
    rw [show Char.ofNat 32 = _ from rfl, wordsSigns]; rfl
  | n :: a, r, h => by
    simp only [List.all_cons, Bool.and_eq_true, bne_iff_ne] at h
    have ih := words_more a r h.2
    show wordsSigns (Char.ofNat n :: (code a ++ Char.ofNat 32 :: r)) = _
    rw [wordsSigns]
    · rw [ih]; rfl
    · exact h.1
theorem words_join : ∀ ws : List (List Nat), ws ≠ [] → (ws.all fun w => w.all fun n => Char.ofNat n != Char.ofNat 32) = true → wordsSigns (code (joinN ws)) = ws.map code
  | [], h, _ => absurd rfl h
  | [a], _, h => by simp only [List.all_cons, List.all_nil, Bool.and_true] at h; exact words_one a h
  | a :: b :: r, _, h => by
    have h' := h
    rw [List.all_cons, Bool.and_eq_true] at h'
    have ih := words_join (b :: r) (by simp) h'.2
    show wordsSigns (code (a ++ 32 :: joinN (b :: r))) = _
    rw [show code (a ++ 32 :: joinN (b :: r)) = code a ++ Char.ofNat 32 :: code (joinN (b :: r)) from by simp [code], words_more a _ h'.1, ih]; rfl

def cutWords : List (List Nat) := [[104, 97, 114, 110, 101, 115, 115],
  [102, 55, 100, 52, 49, 49, 57, 57, 54, 99, 99, 57, 56, 50, 100, 98, 50, 53, 55, 99, 99, 52, 101, 51, 55, 99, 54, 100, 54, 52, 48, 101, 48, 100, 48, 56, 48, 53, 56, 49, 49, 101, 56, 49, 53, 52, 55, 49, 55, 53, 54, 51, 48, 57, 48, 102, 56, 50, 52, 101, 51, 50, 53, 101],
  [99, 117, 116],
  [97, 116],
  [116, 114, 97, 110, 115, 104, 105, 112, 47, 116, 114, 97, 110, 115, 104, 105, 112, 108, 97, 119, 49, 52, 46, 83, 104, 111, 119, 69, 120, 97, 99, 116],
  [116, 114, 97, 110, 115, 104, 105, 112, 47, 116, 114, 97, 110, 115, 104, 105, 112, 108, 97, 119, 49, 52, 46, 83, 104, 111, 119, 66, 97, 99, 107],
  [116, 114, 97, 110, 115, 104, 105, 112, 47, 116, 114, 97, 110, 115, 104, 105, 112, 108, 97, 119, 49, 52, 46, 83, 104, 111, 119, 70, 105, 120, 101, 100],
  [116, 114, 97, 110, 115, 104, 105, 112, 47, 116, 114, 97, 110, 115, 104, 105, 112, 108, 97, 119, 49, 52, 46, 83, 104, 111, 119, 85, 110, 108, 105, 107, 101]]

set_option maxRecDepth 100000 in
theorem cut_words : wordsSigns Tryd.prog.initOrder.toList = cutWords.map code := by
  have h : Tryd.prog.initOrder.toList = code (joinN cutWords) := by
    show (String.ofList (code (joinN cutWords))).toList = _
    exact String.toList_ofList
  rw [h]
  exact words_join cutWords (by simp [cutWords]) (by decide +kernel)

theorem cut_behind : behindMainWord (cutWords.map code) = code [99, 117, 116] :: cutWords.tail.tail.tail.map code := by kernel_rfl
theorem cut_lifts : stripLifts liftWords (code [99, 117, 116] :: cutWords.tail.tail.tail.map code) = ([], code [99, 117, 116] :: cutWords.tail.tail.tail.map code) := by kernel_rfl
theorem cut1 : (code [99, 117, 116] == "gc".toList) = false := by kernel_rfl
theorem cut2 : (code [99, 117, 116] == "spec".toList) = false := by kernel_rfl
theorem cut3 : (code [99, 117, 116] == "cut".toList) = true := by kernel_rfl
theorem cut_all : behindMainWord (wordsSigns Tryd.prog.initOrder.toList) = code [99, 117, 116] :: cutWords.tail.tail.tail.map code := by rw [cut_words, cut_behind]
theorem make_of (P : Program) {c : List Char} {rest : List (List Char)} (h : behindMainWord (wordsSigns P.initOrder.toList) = c :: rest) (h1 : (c == "gc".toList) = false) (h2 : (c == "spec".toList) = false) (h3 : (c == "cut".toList) = true) : P.make = some .cut := by
  unfold Program.make; rw [h]
  simp only [h1, h2, h3, Bool.or_self, Bool.false_eq_true, if_false, Bool.true_or, if_true]
theorem mayEnter_of (P : Program) {c : List Char} {rest : List (List Char)} (h : behindMainWord (wordsSigns P.initOrder.toList) = c :: rest) (h3 : ((stripLifts liftWords (c :: rest)).2.head? == some "cut".toList) = true)
    (h4 : (stripLifts liftWords (c :: rest)).1 = []) (h5 : P.laysLater = false) (h6 : P.bearsReflect = false) (h7 : P.doorFits [] = true) : P.mayEnter = true := by
  unfold Program.mayEnter; rw [h]
  refine Bool.or_eq_true_iff.2 (Or.inr ?_)
  rw [h3, h4, h5, h6, h7]; rfl
theorem row_make : Tryd.prog.make = some .cut := make_of Tryd.prog cut_all cut1 cut2 cut3
theorem row_mayEnter : Tryd.prog.mayEnter = true := mayEnter_of Tryd.prog cut_all (by rw [cut_lifts]; kernel_rfl) (by rw [cut_lifts]) (by kernel_rfl) (by kernel_rfl) (by kernel_rfl)
theorem row_lifts : Tryd.prog.liftsFinal = false := by unfold Program.liftsFinal Program.headLifts; rw [cut_all, cut_lifts]; kernel_rfl
end Go.Proofs.YtdhfbphliejcdaaDoor

namespace Go.Proofs.YtdhfbphliejcdaaDoor.lawShowUnlike
open Go.ChangeShapes Go.WideShapes Go.ChangeAt Go.RowKit Go.ChangeMaps

set_option maxRecDepth 100000 in
theorem lifted (os : Os) (started : os.Started) (H : Type) (enc : TypeId × Value → H) :
    ReturnsInHanded {} Tryd.checked os 6 .any (fun w args => (Rows.showUnlikeSpec.pre enc Tryd.prog Tryd.f6 [] false w args ∧ laidMetH Tryd.prog laidT w) ∧ sizedMet enc Tryd.prog Tryd.f6 (OpenSpec.ofChange Rows.showUnlikeSpec) false w args)
      (Rows.showUnlikeSpec.post enc Tryd.prog Tryd.f6 false true false false) := by
  refine returnsInHanded_of_change_and (C := Tryd.checked) (X := fun w _ => laidMetH Tryd.prog laidT w) (fun _ _ _ hh h => h.of_heap hh) own started (by kernel_rfl) Tryd.func6
    (ChangeSpec.witness_shaped (enc := enc) (C := Tryd.checked) (os := os) (X := fun w _ => laidMetH Tryd.prog laidT w) false (World.doorLaid Tryd.prog 400 os) #[.agg #[.int .i64 0, .int .i64 0, .slice none 0 0], .agg #[.int .i64 0, .int .i64 0, .slice none 0 0]] 8 rfl (World.shaped_of_RefB (by kernel_rfl) (by kernel_rfl)) (by kernel_rfl) (by kernel_rfl) (by kernel_rfl) (door_met os _)) ?_
  intro W base args ds gs before hval0 hW _ _ hL _
  have hval : ∀ (j : Nat) t v, Tryd.f6.params[j]? = some t → args[j]? = some v → Value.okWide Tryd.prog W .any base t v := hval0
  have hW' := hW
  obtain ⟨p, q, hA0, hV, rfl, hfz, hnd⟩ := hW
  have hA : DataW.TrodAll enc Tryd.prog W 0 (fun _ => true) true Tryd.f6.params.toList args.toList ds p := hA0
  rw [Tryd.params6] at hA hval
  obtain ⟨v0, vs0, d0, ds0, p0, q0, hargs0, rfl, rfl, h0, r0⟩ := trodAll_cons hA
  obtain ⟨v1, vs1, d1, ds1, p1, q1, hargs1, rfl, rfl, h1, r1⟩ := trodAll_cons r0
  obtain ⟨rfl, rfl, rfl⟩ := trodAll_nil r1
  obtain rfl : args = #[v0, v1] := by cases args; simp_all
  obtain ⟨rfl, rfl⟩ := trodVars_none hV
  have h0k := h0
  have hlt0 : ∀ x ∈ p0, x.block < W.heap.size := fun x hx => by have := hW'.lt x (by simp [hx]); simpa using this
  obtain ⟨t0, s0, hl0, hv0⟩ := Dv.open_arg (hval 0 24 v0 rfl rfl) h0
  subst hv0
  have h1k := h1
  have hlt1 : ∀ x ∈ p1, x.block < W.heap.size := fun x hx => by have := hW'.lt x (by simp [hx]); simpa using this
  obtain ⟨t1, s1, hl1, hv1⟩ := Dv.open_arg (hval 1 24 v1 rfl rfl) h1
  subst hv1
  clear hA0 hval0
  simp only [List.append_nil] at hW'
  have hT := tabS_of_laid hL
  refine (Dv.showUnlike_any t0 t1 W s0 s1 hl0 hl1 hT).mono fun e W' ⟨he, hb⟩ => ?_
  subst he
  exact ⟨_, rfl, _, _, _, [], _, [], hW', trodAll_cons_mk (shut_bool Tryd.underlying4 _) trodAll_mk0, (trodAll_cons_mk (Below.trod laidOut (by kernel_rfl) (of_decide_eq_true (by kernel_rfl)) h0k hb hlt0) (trodAll_cons_mk (Below.trod laidOut (by kernel_rfl) (of_decide_eq_true (by kernel_rfl)) h1k hb hlt1) trodAll_mk0)), rfl, hb.frame _, fun h => by cases h⟩

theorem closed : joinedFacts Tryd.prog 6 Tryd.f6 Rows.showUnlikeSpec Rows.showUnlikeRow = true := by
  unfold joinedFacts
  rw [row_mayEnter, row_lifts, row_make]
  kernel_rfl
theorem showUnlike_holds : Rows.ShowUnlikeSaid :=
  OpenClaim.holds_of_wide 6 Tryd.f6 rfl rfl rfl rfl rfl rfl rfl ⟨rfl, rfl, rfl, rfl, rfl⟩ rfl rfl rfl rfl rfl (by kernel_rfl) Tryd.func6 closed
    (of_decide_eq_true (by kernel_rfl)) (by unfold Func.isWrapper; first | (rw [if_pos (by decide +kernel)]; kernel_rfl) | (rw [if_neg (by decide +kernel)]; exact ⟨rfl, rfl⟩))
    (fun os started H enc _ => lifted os started H enc)
theorem proved : Rows.ShowUnlikeCardSaid :=
  Claim7.holds_tied_plain_at .later [] [.data, .data, .data] true Rows.showUnlikeCard.stood.harness true
    showUnlike_holds (fun _ h => by cases h) (by kernel_rfl) (fun _ h => by cases h) showUnlike_row_tie rfl ⟨rfl, rfl⟩ (by kernel_rfl) rfl
    (fun f fn hf hfn => by
      obtain rfl : f = 6 := Option.some.inj ((show Tryd.prog.funcNamed "tranship/transhiplaw14.ShowUnlike" = some 6 by kernel_rfl).symm.trans hf) |>.symm
      obtain rfl : fn = Tryd.f6 := (Option.some.inj (Tryd.func6.symm.trans hfn)).symm
      exact ⟨by kernel_rfl, fun j t ht => by
        rw [Tryd.params6] at ht
        have hm : t ∈ [24, 24] := by simpa using Array.mem_of_getElem? ht
        have hall : ([24, 24].all fun u => !Tryd.prog.wantsStandIn u) = true := by kernel_rfl
        exact (show Tryd.prog.wantsStandIn t = false by simpa using List.all_eq_true.1 hall t hm)⟩)
    (by kernel_rfl)
#print axioms proved
end Go.Proofs.YtdhfbphliejcdaaDoor.lawShowUnlike
