/-
  Facts and contracts that the proof of SigExact uses.
-/
import Derived.Lib.ItoaNum
import Derived.Lib.ItoaLen
import Derived.Test.YtpekceadjcbphaaDoorRows
import Derived.WalkKit
import Derived.Lib.Hide
import Derived.ProofKit
import Derived.LoopTactic
import Derived.Below
import Derived.IntWalk
import Derived.Lib.Strings
import Derived.Laws.Strings2
import Derived.Deep.AppendLies
import Derived.Laws.Rows
import Derived.OwnWalk
import Derived.KernelRfl
import Derived.Deep.RegionHeld3
import Derived.Lib.Builder
import Derived.WalkSmall
import Derived.Maps.GroupsBeside
import Derived.Maps.StringElems
import Derived.Laws.OwnMore
import Derived.Deep.RegionLaw
import Derived.Maps.AppendAt
import Derived.Deep.Cut
import Derived.Deep.DeepCutAuto
import Derived.Maps.OwnOps
import Derived.Maps.OwnSet
import Derived.Lib.MinMax
import Derived.Laws.IdiomCopy
import Derived.Deep.Slices
import Derived.Lib.QuietBelow
import Derived.StillTailTactics
import Derived.BigQuiet
import Derived.Deep.RegionWith
import Derived.OrdersHeld
import Derived.Recover
import Derived.RegionTactic
import Derived.Defers
import Derived.Laws.StructEq
import GoSem.Core.Float
import Derived.Laws.Cover2
import Derived.Laws.FloatArith
import Derived.Laws.Externs
import Derived.Deep.QuietTactic
import Derived.Deep.CutBlock
import Derived.Deep.LoopGhost
import Derived.Test.YtpekceadjcbphaaDoorShelf
import Derived.Lib.AppendIntMem
import Derived.Lib.LaidTab
import Derived.OpenShut
import Derived.Carry
import Derived.LaidMore
import Derived.LaidSub
import Derived.LaidHandle
import Derived.Stop.Joined
import Derived.JoinedOf
import Derived.Test.YtpekceadjcbphaaDoorCards
import Derived.Test.YtpekceadjcbphaaDoorTie
import Derived.SevenTiedAt
import Derived.ChangeMaps5
import Derived.Test.YtpekceadjcbphaaDoorSigExactQ1
namespace Go.Proofs.YtpekceadjcbphaaDoor
open Go.RowKit Go.Maps Go.ChangeShapes

/-- The place of a name, counted from the outermost one, or -1. -/
def placeN (x : List UInt8) (N : Names) : Int := match idxL x N with
  | some q => (N.length : Int) - 1 - q
  | none => -1
theorem map_some (X : Nat) (w : World) : (binOp BinOp.eql 73 (.map (some X)) (.map none)).run Tryd.prog w = .ok (.bool false) w := by kernel_rfl
theorem map_none (w : World) : (binOp BinOp.eql 73 (.map none) (.map none)).run Tryd.prog w = .ok (.bool true) w := by kernel_rfl
theorem make_idx (n : Int) (w : World) : (Instr.makeMap 73 (some (.int .i64 n))).run Tryd.prog w = .ok (.map (some w.heap.size)) (w.alloc (.map #[] 0)) := by kernel_rfl
theorem zero_int (w : World) : (zeroValue 3).run Tryd.prog w = .ok (.int .i64 0) w := by kernel_rfl
/-- All blocks but the reader's own. -/
def OldBut (c : RC) (w w' : World) : Prop := ∀ (b : Nat) (o : Obj), w.heap[b]? = some o → b ≠ c.R → w'.heap[b]? = some o
theorem OldBut.trans {c : RC} {w w1 w2 : World} (h : OldBut c w w1) (k : OldBut c w1 w2) : OldBut c w w2 := fun b o e hne => k b o (h b o e hne) hne
theorem OldBut.set (c : RC) (w : World) (i : Nat) (v : Value) : OldBut c w (w.setCell ⟨c.R, i, none⟩ v) := fun b o e hne => by
  rw [heap_setCell_other w ⟨c.R, i, none⟩ b v (by exact hne)]; exact e
theorem OldBut.alloc (c : RC) (w : World) (o : Obj) : OldBut c w (w.alloc o) := fun b o' e _ => by rw [Lib.alloc_old _ _ _ (hlt_of e)]; exact e
/-- The reader's state behind a step that turns but its own block. -/
theorem RSt.own {c : RC} {sl sl' : Nat} {N : Names} {ts : List Tok} {w w' : World} (h : RSt c sl N ts w) (hf : Fr c w w') (ho : OldBut c w w') {lk n : Nat} {xv : Value} {D : DataW Unit} {env : Names} (q4 : w.ownsGroups Tryd.prog 9 (c.M + 1) 3 .i64 c.M n D) (hM : c.M ≠ c.R)
    (hRt : ∀ cs fz, w.heap[c.R]? ≠ some (Obj.cells cs 3 fz)) (r1 : RAt w' c N.length xv lk) (r2 : n + lk + 100 * ts.length + sl' ≤ c.K) (r3 : IdxIs w' c xv) (hN : N = env ++ c.out.reverse) (he : EnvIs D env c.out.length) (hsl : sl' ≤ sl := by omega) : RSt c sl' N ts w' := by
  obtain ⟨es, clock, hm⟩ := groups_map q4
  exact h.turn hf (fun b o e _ _ h2 => ho b o e h2) r1 r2 r3 (groups_same q4 (by rw [ho _ _ hm hM, hm]) fun g cs fz e => ho g _ e (fun e2 => hRt cs fz (by rw [← e2]; exact e))) hN he (by have := h.many; omega)
set_option maxHeartbeats 2000000 in
set_option maxRecDepth 20000 in
/-- A name that is bound within the text. -/
theorem place_in (c : RC) (sl : Nat) (x : List UInt8) (N : Names) (ts : List Tok) (w : World) (h : RSt c (sl + 1) N ts w) (hx : x.length ≤ 10000000) {lk n : Nat} {xv : Value} {D : DataW Unit} {env : Names} (r1 : RAt w c N.length xv lk) (r2 : n + lk + 100 * ts.length + (sl + 1) ≤ c.K) (r4 : w.ownsGroups Tryd.prog 9 (c.M + 1) 3 .i64 c.M n D) (hNe : N = env ++ c.out.reverse) (r5 : EnvIs D env c.out.length) {q : Nat} (hq : idxL x env = some q) :
    Calls Tryd.prog 55 #[.pointer (some ⟨c.R, 0, none⟩), .string ⟨x.toArray⟩] w fun e w' => e = .returned (.int .i64 (placeN x N)) ∧ RSt c sl N ts w' ∧ Fr c w w' := by
  have hkk := h.kk
  obtain ⟨v, hrun, ho, hzl, hback⟩ := group_at r4 (by omega) r5 x hx
  have hpl : placeN x N = ((c.out.length + (env.length - 1 - q) : Nat) : Int) := by
    unfold placeN
    rw [hNe, idxL_append, hq]
    have := idxL_lt hq
    simp; omega
  obtain ⟨l, hl⟩ := poss_some (o := c.out.length) hq
  rw [hl] at ho hzl
  obtain ⟨g, cap, rfl⟩ := row_some ho (by simp)
  have HP := Lib.hid hpl
  have HH := Lib.hid h
  have hcell : w.cell? ⟨g, l.length, none⟩ = some (.int .i64 ((c.out.length + (env.length - 1 - q) : Nat) : Int)) := by
    have := ho.1.cells (g := g) rfl l.length (.int .i64 ((c.out.length + (env.length - 1 - q) : Nat) : Int)) (by simp)
    by_cases h0 : l.length = 0
    · rw [h0] at this ⊢; simpa [Addr.add] using this
    · simpa [Addr.add, h0] using this
  have hlen : (l ++ [((c.out.length + (env.length - 1 - q) : Nat) : Int)]).length = l.length + 1 := by simp
  rw [hlen] at hrun hzl
  have a4 : w.cell? ⟨c.R, 4, none⟩ = some (.map (some c.M)) := by rw [Lib.cell_of_heap r1]; rfl
  obtain ⟨z, hz⟩ : ∃ z, ((c.out.length + (env.length - 1 - q) : Nat) : Int) = z := ⟨_, rfl⟩
  rw [hz] at hcell HP
  have hll : l.length ≤ 100000000000 := by omega
  have hcp : l.length + 1 ≤ cap := by obtain ⟨a, cap', e, h1, _⟩ := row_form ho; simp only [Value.slice.injEq] at e; obtain ⟨_, _, rfl⟩ := e; simpa using h1
  clear h r1 r2 r4 hNe r5 hq ho hback hpl hl hzl hlen hz
  go_enter Tryd.func55, Tryd.ntmps55
  go_wp2
  go_ret
  exact ⟨by rw [HP.out]; rfl, HH.out.less (by omega), Fr.refl _ _⟩
/-- An index of the first k outer names. -/
def IdxF (c : RC) (w : World) (N : Names) (X lk k : Nat) (wr : World) : Prop := RAt wr c N.length (.map (some X)) (lk + 1) ∧ OldBut c w wr ∧ Fr c w wr ∧ ∃ D2, wr.ownsMap Tryd.prog 9 (plainElem (H := Unit) Tryd.prog 3) X k D2 ∧ IdxAt D2 (c.out.take k)
set_option maxHeartbeats 4000000 in
set_option maxRecDepth 20000 in
/-- A name that is not bound within the text. -/
theorem place_out (c : RC) (sl : Nat) (x : List UInt8) (N : Names) (ts : List Tok) (w : World) (h : RSt c (sl + 1) N ts w) (hx : x.length ≤ 10000000) {lk n : Nat} {xv : Value} {D : DataW Unit} {env : Names} (r1 : RAt w c N.length xv lk) (r2 : n + lk + 100 * ts.length + (sl + 1) ≤ c.K) (r3 : IdxIs w c xv) (r4 : w.ownsGroups Tryd.prog 9 (c.M + 1) 3 .i64 c.M n D) (hNe : N = env ++ c.out.reverse) (r5 : EnvIs D env c.out.length) (hq : idxL x env = none) :
    Calls Tryd.prog 55 #[.pointer (some ⟨c.R, 0, none⟩), .string ⟨x.toArray⟩] w fun e w' => e = .returned (.int .i64 (placeN x N)) ∧ RSt c sl N ts w' ∧ Fr c w w' := by
  have hkk := h.kk
  obtain ⟨v, hrun, ho, hzl, hback⟩ := group_at r4 (by omega) r5 x hx
  rw [poss_none hq] at ho hzl
  obtain ⟨a, cap, rfl, hcap, hcm⟩ := row_form ho
  have hpl : placeN x N = match idxL x c.out.reverse with | some q => (c.out.length : Int) - 1 - q | none => -1 := by
    unfold placeN
    rw [hNe, idxL_append, hq]
    cases idxL x c.out.reverse with
    | none => rfl
    | some q => simp; omega
  have HP := Lib.hid hpl
  have HH := Lib.hid h
  have HG := Lib.hid r4
  have HNE := Lib.hid hNe
  have HE := Lib.hid r5
  have HR3 := Lib.hid r3
  have hR := Lib.hid r1
  have hMR : c.M ≠ c.R := fun e => by obtain ⟨es, clock, hM⟩ := groups_map r4; unfold RAt at r1; rw [e, r1] at hM; cases hM
  have hRt : ∀ cs fz, w.heap[c.R]? ≠ some (Obj.cells cs 3 fz) := fun cs fz e => ri_ne (type_one r1 e)
  have HRT := Lib.hid (And.intro hMR hRt)
  have a4 : w.cell? ⟨c.R, 4, none⟩ = some (.map (some c.M)) := by rw [Lib.cell_of_heap r1]; rfl
  have a7 : w.cell? ⟨c.R, 7, none⟩ = some (.int .i64 lk) := by rw [Lib.cell_of_heap r1]; rfl
  have f7 : w.frozen? ⟨c.R, 7, none⟩ = false := Lib.frozen_of_heap r1 7
  obtain ⟨ao, co, hov, hol, hom, hox⟩ := h.outs
  have hlk : lk ≤ 100000000000 := by omega
  have HOX := Lib.hid h.outs
  have HSL := Lib.hid (show n + (lk + 1) + 100 * ts.length + sl ≤ c.K by omega)
  have HKEY := Lib.hid (key_of x hx)
  have hlo := h.lo
  simp only [List.length_nil] at hrun
  unfold maxLen at hom
  clear h r1 r2 r3 r4 hNe r5 hq ho hback hpl hzl hcap hcm hox hRt hMR
  go_enter Tryd.func55, Tryd.ntmps55
  go_upto_region 4 with fail
  go_cut [5] (fun s5 wx => s5 = .slice a 0 cap ∧ Hid (RAt wx c N.length xv (lk + 1) ∧ OldBut c w wx ∧ Fr c w wx))
  case first =>
    go_wp2_with fail
    go_meet
    case rel =>
      have hset : RAt (w.setCell ⟨c.R, 7, none⟩ (.int .i64 ((lk : Int) + 1))) c N.length xv (lk + 1) := heap_setCell_same w c.R 7 _ _ _ hR.out
      exact ⟨rfl, Lib.hid ⟨hset, OldBut.set _ _ _ _, (HH.out.cell hR.out 7 _).1⟩⟩
  case rest =>
  obtain ⟨rfl, HW⟩ := hcut
  have hRc := HW.out.1
  have b3 : wc.cell? ⟨c.R, 3, none⟩ = some (.slice ao c.out.length co) := by rw [Lib.cell_of_heap hRc, ← hov]; rfl
  have b6 : wc.cell? ⟨c.R, 6, none⟩ = some xv := by rw [Lib.cell_of_heap hRc]; rfl
  have b7 : wc.cell? ⟨c.R, 7, none⟩ = some (.int .i64 ((lk : Int) + 1)) := by rw [Lib.cell_of_heap hRc]; rfl
  have f6 : wc.frozen? ⟨c.R, 6, none⟩ = false := Lib.frozen_of_heap hRc 6
  have HX := Lib.hid (HOX.out.keep HW.out.2.2.below)
  rw [hov] at HX
  have HV := Lib.hid hov
  have hRlt : c.R < wc.heap.size := hlt_of hRc
  clear hRc a4 a7 f7 hrun hov
  by_cases hk : lk + 1 ≤ 16
  · have hk2 : (lk : Int) + 1 ≤ 16 := by omega
    clear hk
    go_wp2_with fail
    go_loop [6] (fun i => ∃ k : Nat, k ≤ c.out.length ∧ i = .int .i64 ((k : Int) - 1) ∧ Hid (idxL x (c.out.drop k).reverse = none)) (fun i => (intOf i + 1).toNat)
    case atStart => exact ⟨c.out.length, Nat.le_refl _, by go_num, Lib.hid (by rw [List.drop_length]; rfl)⟩
    case round =>
      obtain ⟨k, hkl, rfl, hno⟩ := hrel
      cases k with
      | zero =>
        have hz : ¬ (0 : Int) ≤ ((0 : Nat) : Int) - 1 := by omega
        go_wp2
        go_ret
        have HR2 := HH.out.own HW.out.2.2 HW.out.2.1 HG.out HRT.out.1 HRT.out.2 HW.out.1 HSL.out (idxIs_same HR3.out fun b es clock hne e => HW.out.2.1 b _ e (fun e2 => by have h1 := hR.out; unfold RAt at h1; rw [e2, h1] at e; cases e)) HNE.out HE.out
        refine ⟨?_, HR2, HW.out.2.2⟩
        have h0 := hno.out
        rw [List.drop_zero] at h0
        rw [HP.out, h0]; rfl
      | succ q =>
        have e1 : (((q + 1 : Nat) : Int) - 1) = (q : Int) := by omega
        rw [e1]
        have hq : q < c.out.length := by omega
        have hqi : (q : Int) < (c.out.length : Int) := by omega
        obtain ⟨_, _, e2, _, _, hcx⟩ := HX.out
        obtain ⟨g, o, e3, _, hc⟩ := hcx q hq
        simp only [Value.slice.injEq] at e2
        obtain ⟨rfl, -, rfl⟩ := e2
        subst e3
        have hdr : c.out.drop q = c.out[q] :: c.out.drop (q + 1) := List.drop_eq_getElem_cons hq
        have HD := Lib.hid (show idxL x (c.out.drop q).reverse = if c.out[q] = x then some (c.out.length - (q + 1)) else none from by
          rw [hdr, List.reverse_cons, idxL_append, hno.out]
          by_cases he : c.out[q] = x <;> simp [idxL, he])
        obtain ⟨y, hy⟩ : ∃ y, c.out[q] = y := ⟨_, rfl⟩
        rw [hy] at hc HD
        have HY := Lib.hid hy
        clear hdr hcx hy
        cases hyx : (y == x)
        · go_wp2
          go_round
          case rel => exact ⟨q, by omega, by go_num, Lib.hid (by rw [HD.out, if_neg (by simpa using hyx)])⟩
          case measure => simp [intOf]
        · go_wp2
          go_ret
          have HR2 := HH.out.own HW.out.2.2 HW.out.2.1 HG.out HRT.out.1 HRT.out.2 HW.out.1 HSL.out (idxIs_same HR3.out fun b es clock hne e => HW.out.2.1 b _ e (fun e2 => by have h1 := hR.out; unfold RAt at h1; rw [e2, h1] at e; cases e)) HNE.out HE.out
          refine ⟨?_, HR2, HW.out.2.2⟩
          have h1 := HD.out
          rw [if_pos (by simpa using hyx)] at h1
          have h2 : idxL x c.out.reverse = some (c.out.length - (q + 1)) := by
            have h3 : c.out.reverse = (c.out.drop q).reverse ++ (c.out.take q).reverse := by rw [← List.reverse_append, List.take_append_drop]
            rw [h3, idxL_append, h1]
          rw [HP.out, h2]
          show Ending.returned (.int .i64 (q : Int)) = .returned (.int .i64 ((c.out.length : Int) - 1 - ((c.out.length - (q + 1) : Nat) : Int)))
          rw [show (c.out.length : Int) - 1 - ((c.out.length - (q + 1) : Nat) : Int) = (q : Int) by omega]
  · have hk2 : ¬ (lk : Int) + 1 ≤ 16 := by omega
    clear hk
    rcases HR3.out with hxv | ⟨X, n2, D2, hxv, hX, hXM, hn2, hown0, hia⟩
    · subst hxv
      have HMK := Lib.hid (World.ownsMap_made wc Tryd.prog 9 (plainElem (H := Unit) Tryd.prog 3))
      have hmn := map_none wc
      have hmm := make_idx (c.out.length : Int) wc
      have f6' : (wc.alloc (.map #[] 0)).frozen? ⟨c.R, 6, none⟩ = false := Lib.frozen_of_heap ((Lib.alloc_old _ _ _ hRlt).trans HW.out.1) 6
      have c6' : (wc.alloc (.map #[] 0)).cell? ⟨c.R, 6, none⟩ = some (.map none) := by rw [Lib.cell_of_heap ((Lib.alloc_old wc (.map #[] 0) _ hRlt).trans HW.out.1)]; rfl
      obtain ⟨X, hXe⟩ : ∃ X, wc.heap.size = X := ⟨_, rfl⟩
      have hXM : X ≠ c.M := by obtain ⟨es, clock, hM⟩ := groups_map HG.out; have := hlt_of hM; have := HW.out.2.2.size; omega
      have hXR : X ≠ c.R := by omega
      have hXB : c.B ≤ X := by have := HW.out.2.2.size; omega
      have hout : c.out.length ≤ 100000000000 := by have h1 := HH.out.many; have h2 := congrArg List.length HNE.out; simp at h2; omega
      have HS := Lib.hid HH.out.short
      go_upto_region 13 with fail
      go_cut [5] (fun s5 wx => s5 = .slice a 0 cap ∧ Hid (IdxF c w N X lk 0 wx))
      case first =>
        go_wp2_with fail
        go_meet
        case rel =>
          refine ⟨rfl, Lib.hid ?_⟩
          have hR1 : RAt (wc.alloc (.map #[] 0)) c N.length (.map none) (lk + 1) := (Lib.alloc_old _ _ _ hRlt).trans HW.out.1
          rw [← hXe]
          refine ⟨heap_setCell_same _ c.R 6 _ _ _ hR1, HW.out.2.1.trans ((OldBut.alloc c wc _).trans (OldBut.set c _ 6 _)), ?_, .map [], HMK.out.setCell (by show _ ≠ c.R; rw [hXe]; exact hXR) _, idxAt_nil⟩
          have hf1 : Fr c w (wc.alloc (.map #[] 0)) := HW.out.2.2.alloc (by have := HW.out.2.2.size; omega) _
          exact hf1.trans (Fr.grown (row := some c.R) (grown_at ⟨rfl, rfl, rfl, Nat.le_refl _, fun _ _ _ => rfl⟩ 6 _) (fun b e => by obtain rfl := Option.some.inj e; exact HH.out.bR) (fun b e cs T fz e2 => by obtain rfl := Option.some.inj e; exact Or.inr (Or.inl (type_one e2 hR1))) (by have := hf1.size; omega))
      case rest =>
      obtain ⟨rfl, HF0⟩ := hcut
      have b3' : wc.cell? ⟨c.R, 3, none⟩ = some (.slice ao c.out.length co) := by rw [Lib.cell_of_heap HF0.out.1, ← HV.out]; rfl
      clear b3 b6 b7 f6 f6' c6' hmn hmm
      go_wp2_with fail
      go_loopw [77] (fun i wr => ∃ k : Nat, k ≤ c.out.length ∧ i = .int .i64 k ∧ Hid (IdxF c w N X lk k wr)) (fun i _ => c.out.length - (intOf i).toNat)
      case atStart => exact ⟨0, Nat.zero_le _, rfl, HF0⟩
      case round =>
        obtain ⟨k, hkl, rfl, HFk⟩ := hrel
        clear b3' HF0
        by_cases hlt : k < c.out.length
        · obtain ⟨D2, hown, hia⟩ := HFk.out.2.2.2
          have hox := HOX.out.keep HFk.out.2.2.1.below
          rw [HV.out] at hox
          obtain ⟨_, _, e2, _, _, hcx⟩ := hox
          obtain ⟨g, o, e3, _, hc⟩ := hcx k hlt
          simp only [Value.slice.injEq] at e2
          obtain ⟨rfl, -, rfl⟩ := e2
          subst e3
          have hRr := HFk.out.1
          have e6 : wr.cell? ⟨c.R, 6, none⟩ = some (.map (some X)) := by rw [Lib.cell_of_heap hRr]; rfl
          have htk : c.out.take (k + 1) = c.out.take k ++ [c.out[k]] := by simp
          have hyl := HS.out _ (List.getElem_mem hlt)
          obtain ⟨y, hy⟩ : ∃ y, c.out[k] = y := ⟨_, rfl⟩
          rw [hy] at hc htk hyl
          obtain ⟨w', hrun3, hown3, hgrow3⟩ := hown.update key_law Tryd.underlying73 (by unfold maxLen; omega) (key_of y hyl) (plainElem_int Tryd.underlying3 (int_wf (k : Int) (by omega) (by omega)))
          have hi3 := idxAt_put hown.isMap hia y
          rw [List.length_take, show min k c.out.length = k by omega, ← htk] at hi3
          have HN := Lib.hid (show IdxF c w N X lk (k + 1) w' from by
            have old : ∀ (b : Nat) (o : Obj), wr.heap[b]? = some o → b ≠ X → w'.heap[b]? = some o := fun b o e hne => by rw [hgrow3.block b (hlt_of e) (fun e2 => hne (Option.some.inj e2))]; exact e
            refine ⟨old _ _ hRr (Ne.symm hXR), fun b o e hne => old b o (HFk.out.2.1 b o e hne) (by have := hlt_of e; have := HW.out.2.2.size; omega), ?_, _, hown3, hi3⟩
            refine HFk.out.2.2.1.trans (Fr.grown hgrow3 (fun b e => by obtain rfl := Option.some.inj e; exact hXB) (fun b e cs T fz e2 => ?_) (by have := HFk.out.2.2.1.size; omega))
            obtain rfl := Option.some.inj e
            obtain ⟨es, clock, hb, _⟩ := hown
            rw [hb] at e2; cases e2)
          clear hown hia hown3 hgrow3 hi3 hcx hRr htk hy
          go_wp2
          go_roundw
          case rel => exact ⟨k + 1, by omega, by go_num, HN⟩
          case measure => simp [intOf]; omega
        · obtain rfl : k = c.out.length := by omega
          obtain ⟨D2, hown, hia⟩ := HFk.out.2.2.2
          rw [List.take_length] at hia
          have hX := hXB
          have hn2 := hout
          have HZ := Lib.hid (show RAt wr c N.length (.map (some X)) (lk + 1) ∧ OldBut c w wr ∧ Fr c w wr from ⟨HFk.out.1, HFk.out.2.1, HFk.out.2.2.1⟩)
          have HR2 := Lib.hid (HH.out.own HZ.out.2.2 HZ.out.2.1 HG.out HRT.out.1 HRT.out.2 HZ.out.1 HSL.out (Or.inr ⟨X, _, D2, rfl, hX, hXM, hn2, hown, hia⟩) HNE.out HE.out)
          have hRc := HZ.out.1
          have d6 : wr.cell? ⟨c.R, 6, none⟩ = some (.map (some X)) := by rw [Lib.cell_of_heap hRc]; rfl
          obtain ⟨v2, ps, hrun2, hv2⟩ := hown.look_ok key_law Tryd.underlying73 (zero_int wr) (plainElem_int Tryd.underlying3 (by decide)) HKEY.out
          have hia2 := hia x
          clear hRc hown hia
          cases hq : idxL x c.out.reverse with
          | none =>
            rw [hq] at hia2
            simp only at hia2
            rw [hia2] at hrun2
            go_wp2
            go_ret
            refine ⟨?_, HR2.out, HZ.out.2.2⟩
            rw [HP.out, hq]; rfl
          | some q =>
            rw [hq] at hia2
            simp only at hia2
            rw [hia2.1] at hrun2
            rw [hia2.2] at hv2
            obtain ⟨z, rfl, hz, _⟩ := plainElem_int_inv Tryd.underlying3 hv2
            have hz2 : ((c.out.length - 1 - q : Nat) : Int) = z := by
              have := congrArg Prod.fst hz
              simpa using this
            go_wp2
            go_ret
            refine ⟨?_, HR2.out, HZ.out.2.2⟩
            have := idxL_lt hq
            rw [List.length_reverse] at this
            rw [HP.out, hq]
            show Ending.returned (.int .i64 z) = .returned (.int .i64 ((c.out.length : Int) - 1 - (q : Int)))
            rw [← hz2, show (c.out.length : Int) - 1 - (q : Int) = ((c.out.length - 1 - q : Nat) : Int) by omega]
    · subst hxv
      have hown : wc.ownsMap Tryd.prog 9 (plainElem (H := Unit) Tryd.prog 3) X n2 D2 := by
        obtain ⟨es, clock, hb, r⟩ := hown0
        exact ⟨es, clock, HW.out.2.1 _ _ hb (fun e2 => by have h1 := hR.out; unfold RAt at h1; rw [e2, h1] at hb; cases hb), r⟩
      have HZ := Lib.hid (show RAt wc c N.length (.map (some X)) (lk + 1) ∧ OldBut c w wc ∧ Fr c w wc from HW.out)
      have hms := map_some X wc
      clear hown0
      have HR2 := Lib.hid (HH.out.own HZ.out.2.2 HZ.out.2.1 HG.out HRT.out.1 HRT.out.2 HZ.out.1 HSL.out (Or.inr ⟨X, _, D2, rfl, hX, hXM, hn2, hown, hia⟩) HNE.out HE.out)
      have hRc := HZ.out.1
      obtain ⟨v2, ps, hrun2, hv2⟩ := hown.look_ok key_law Tryd.underlying73 (zero_int wc) (plainElem_int Tryd.underlying3 (by decide)) HKEY.out
      have hia2 := hia x
      clear hRc hown hia
      cases hq : idxL x c.out.reverse with
      | none =>
        rw [hq] at hia2
        simp only at hia2
        rw [hia2] at hrun2
        go_wp2
        go_ret
        refine ⟨?_, HR2.out, HZ.out.2.2⟩
        rw [HP.out, hq]; rfl
      | some q =>
        rw [hq] at hia2
        simp only at hia2
        rw [hia2.1] at hrun2
        rw [hia2.2] at hv2
        obtain ⟨z, rfl, hz, _⟩ := plainElem_int_inv Tryd.underlying3 hv2
        have hz2 : ((c.out.length - 1 - q : Nat) : Int) = z := by
          have := congrArg Prod.fst hz
          simpa using this
        go_wp2
        go_ret
        refine ⟨?_, HR2.out, HZ.out.2.2⟩
        have := idxL_lt hq
        rw [List.length_reverse] at this
        rw [HP.out, hq]
        show Ending.returned (.int .i64 z) = .returned (.int .i64 ((c.out.length : Int) - 1 - (q : Int)))
        rw [← hz2, show (c.out.length : Int) - 1 - (q : Int) = ((c.out.length - 1 - q : Nat) : Int) by omega]
end Go.Proofs.YtpekceadjcbphaaDoor

namespace Go.Proofs.YtpekceadjcbphaaDoor
open Go.RowKit Go.Maps Go.ChangeShapes

theorem place_any (c : RC) (sl : Nat) (x : List UInt8) (N : Names) (ts : List Tok) (w : World) (h : RSt c (sl + 1) N ts w) (hx : x.length ≤ 10000000) :
    Calls Tryd.prog 55 #[.pointer (some ⟨c.R, 0, none⟩), .string ⟨x.toArray⟩] w fun e w' => e = .returned (.int .i64 (placeN x N)) ∧ RSt c sl N ts w' ∧ Fr c w w' := by
  obtain ⟨lk, n, xv, D, env, r1, r2, r3, r4, hNe, r5⟩ := h.rdr
  cases hq : idxL x env with
  | some q => exact place_in c sl x N ts w h hx r1 r2 r4 hNe r5 hq
  | none => exact place_out c sl x N ts w h hx r1 r2 r3 r4 hNe r5 hq
/-- The tables of words lie below B. -/
structure TabsR (B : Nat) (w : World) : Prop where
  lo : 1 < B ∧ 0 < B
  heads : ∀ k < 21, w.cell? ⟨1, k, none⟩ = some (.string ⟨(((headsW.drop 3)[k]?).getD []).toArray⟩)
  syms : ∀ k < 21, w.cell? ⟨0, k, none⟩ = some (.string ⟨((symsW[k]?).getD []).toArray⟩)
theorem TabsR.keep {B : Nat} {w w' : World} (h : TabsR B w) (hb : Below B w w') : TabsR B w' :=
  ⟨h.lo, fun k hk => (hb.cell (by exact h.lo.1)).trans (h.heads k hk), fun k hk => (hb.cell (by exact h.lo.2)).trans (h.syms k hk)⟩

set_option maxRecDepth 20000 in
theorem sortOf_any (k : Int) (w : World) : Calls Tryd.prog 72 #[.int .i64 k] w fun e w' => e = .returned (.int .i64 (sortN k)) ∧ w = w' := by
  go_enter Tryd.func72, Tryd.ntmps72
  go_wp2
  all_goals go_ret
  all_goals exact ⟨by unfold sortN; (repeat' split) <;> first | rfl | (exfalso; omega), rfl⟩
set_option maxRecDepth 20000 in
theorem levelsOf_any (k : Int) (w : World) : Calls Tryd.prog 73 #[.int .i64 k] w fun e w' => e = .returned (.int .i64 (levelsN k)) ∧ w = w' := by
  go_enter Tryd.func73, Tryd.ntmps73
  go_wp2
  all_goals go_ret
  all_goals exact ⟨by simp only [beq_iff_eq, beq_eq_false_iff_ne, ne_eq] at *; unfold levelsN; (repeat' split) <;> first | rfl | (exfalso; omega), rfl⟩

set_option maxHeartbeats 2000000 in
set_option maxRecDepth 20000 in
theorem symbol_any (B : Nat) (x : List UInt8) (w : World) (hT : TabsR B w) : Calls Tryd.prog 25 #[.string ⟨x.toArray⟩] w fun e w' => e = .returned (.int .i64 (symN x)) ∧ w = w' := by
  have HT := Lib.hid hT
  clear hT
  obtain ⟨L, hL⟩ : ∃ L, symsW = L := ⟨_, rfl⟩
  have hL21 : L.length = 21 := by rw [← hL]; rfl
  have HL := Lib.hid hL
  have HI := Lib.hid (show ∀ o, idxL x L = o → symN x = (match o with | some i => (i : Int) + 1 | none => 0) from fun o ho => by unfold symN; first | (rw [hL, ho]; done) | (rw [hL, ho]; cases o <;> rfl))
  
  go_enter Tryd.func25, Tryd.ntmps25
  go_wp2_with fail
  go_loop [4] (fun i => ∃ k : Nat, k ≤ 21 ∧ i = .int .i64 k ∧ Hid (idxL x L = (idxL x (L.drop k)).map (· + k))) (fun i => 21 - (intOf i).toNat)
  case atStart => exact ⟨0, Nat.zero_le _, rfl, Lib.hid (by rw [List.drop_zero]; cases idxL x L <;> rfl)⟩
  case round =>
    obtain ⟨k, hk, rfl, hno⟩ := hrel
    by_cases hlt : k < 21
    · have hc := HT.out.syms k hlt
      have hkl : k < L.length := by omega
      have hdr : L.drop k = L[k] :: L.drop (k + 1) := List.drop_eq_getElem_cons hkl
      have hcc : w.cell? ⟨0, k, none⟩ = some (.string ⟨(L[k]).toArray⟩) := by rw [hc]; simp only [HL.out, List.getElem?_eq_getElem hkl, Option.getD_some]
      obtain ⟨y, hy⟩ : ∃ y, L[k] = y := ⟨_, rfl⟩
      rw [hy] at hcc hdr
      have HD := Lib.hid hdr
      clear hc hdr hy
      cases hyx : (y == x)
      · go_wp2
        go_round
        case rel =>
          refine ⟨k + 1, by omega, by go_num, Lib.hid ?_⟩
          rw [hno.out, HD.out]
          simp only [idxL]
          rw [if_neg (by simpa using hyx)]
          cases idxL x (L.drop (k + 1)) <;> simp; omega
        case measure => simp [intOf]; omega
      · go_wp2
        go_ret
        refine ⟨?_, rfl⟩
        have h1 : idxL x L = some k := by
          rw [hno.out, HD.out]
          simp only [idxL]
          rw [if_pos (by simpa using hyx)]
          simp
        rw [HI.out _ h1]
        (try rfl)
    · obtain rfl : k = 21 := by omega
      go_wp2
      go_ret
      refine ⟨?_, rfl⟩
      have h1 : idxL x L = none := by rw [hno.out, List.drop_eq_nil_of_le (by omega)]; rfl
      rw [HI.out _ h1]
      (try rfl)

set_option maxHeartbeats 2000000 in
set_option maxRecDepth 20000 in
theorem headed_any (B : Nat) (x : List UInt8) (w : World) (hT : TabsR B w) : Calls Tryd.prog 71 #[.string ⟨x.toArray⟩] w fun e w' => e = .returned (.int .i64 (headN x)) ∧ w = w' := by
  have HT := Lib.hid hT
  clear hT
  obtain ⟨L, hL⟩ : ∃ L, headsW.drop 3 = L := ⟨_, rfl⟩
  have hL21 : L.length = 21 := by rw [← hL]; rfl
  have HL := Lib.hid hL
  have HI := Lib.hid (show ∀ o, idxL x L = o → headN x = (if x = [115, 111, 114, 116] then 1 else match o with | some i => (i : Int) + 3 | none => 0) from fun o ho => by unfold headN; first | (rw [hL, ho]; done) | (rw [hL, ho]; cases o <;> rfl))
  by_cases hs : x = [115, 111, 114, 116]
  · subst hs
    go_enter Tryd.func71, Tryd.ntmps71
    go_wp2
    go_ret
    exact ⟨by unfold headN; rw [if_pos rfl]; rfl, rfl⟩
  have hsb : (x == [115, 111, 114, 116]) = false := by simpa using hs
  go_enter Tryd.func71, Tryd.ntmps71
  go_wp2_with fail
  go_loop [6] (fun i => ∃ k : Nat, k ≤ 21 ∧ i = .int .i64 k ∧ Hid (idxL x L = (idxL x (L.drop k)).map (· + k))) (fun i => 21 - (intOf i).toNat)
  case atStart => exact ⟨0, Nat.zero_le _, rfl, Lib.hid (by rw [List.drop_zero]; cases idxL x L <;> rfl)⟩
  case round =>
    obtain ⟨k, hk, rfl, hno⟩ := hrel
    by_cases hlt : k < 21
    · have hc := HT.out.heads k hlt
      have hkl : k < L.length := by omega
      have hdr : L.drop k = L[k] :: L.drop (k + 1) := List.drop_eq_getElem_cons hkl
      have hcc : w.cell? ⟨1, k, none⟩ = some (.string ⟨(L[k]).toArray⟩) := by rw [hc]; simp only [HL.out, List.getElem?_eq_getElem hkl, Option.getD_some]
      obtain ⟨y, hy⟩ : ∃ y, L[k] = y := ⟨_, rfl⟩
      rw [hy] at hcc hdr
      have HD := Lib.hid hdr
      clear hc hdr hy
      cases hyx : (y == x)
      · go_wp2
        go_round
        case rel =>
          refine ⟨k + 1, by omega, by go_num, Lib.hid ?_⟩
          rw [hno.out, HD.out]
          simp only [idxL]
          rw [if_neg (by simpa using hyx)]
          cases idxL x (L.drop (k + 1)) <;> simp; omega
        case measure => simp [intOf]; omega
      · go_wp2
        go_ret
        refine ⟨?_, rfl⟩
        have h1 : idxL x L = some k := by
          rw [hno.out, HD.out]
          simp only [idxL]
          rw [if_pos (by simpa using hyx)]
          simp
        rw [HI.out _ h1]
        rw [if_neg hs]
        (try rfl)
    · obtain rfl : k = 21 := by omega
      go_wp2
      go_ret
      refine ⟨?_, rfl⟩
      have h1 : idxL x L = none := by rw [hno.out, List.drop_eq_nil_of_le (by omega)]; rfl
      rw [HI.out _ h1, if_neg hs]
      (try rfl)
end Go.Proofs.YtpekceadjcbphaaDoor

namespace Go.Proofs.YtpekceadjcbphaaDoor
open Go.RowKit Go.Maps Go.ChangeShapes

def RTake (c : RC) (sl : Nat) (N : Names) (w : World) (x : Except Nat (Tok × List Tok)) (e : Ending) (w' : World) : Prop :=
  match x with
  | .error a => e = faultP a ∧ Fr c w w'
  | .ok (t, r) => e = .returned (.agg #[.int .i64 t.k, .string ⟨t.s.toArray⟩, .int .i64 t.at_]) ∧ RSt c (sl + 100) N r w' ∧ Fr c w w'
theorem RSt.rtake {c : RC} {sl : Nat} {N : Names} {ts : List Tok} {w : World} (h : RSt c sl N ts w) (k : Nat) : Calls Tryd.prog 54 #[.pointer (some ⟨c.S, 0, none⟩), .int .i64 k] w (RTake c sl N w (takeT c.E k ts)) := by
  obtain ⟨tv, h1, h2⟩ := h.str
  refine (take_any c.S tv c.E c.br ts k w h1 h2).mono ?_
  intro e w' hg
  cases hx : takeT c.E k ts with
  | error a =>
    rw [hx] at hg
    obtain ⟨he, hgr⟩ := hg
    exact ⟨he, Fr.grown hgr (fun b e => by obtain rfl := Option.some.inj e; exact h.bS) (fun b e cs T fz e2 => by obtain rfl := Option.some.inj e; exact Or.inl (type_one e2 h1)) h.lo⟩
  | ok p =>
    obtain ⟨t, r⟩ := p
    rw [hx] at hg
    obtain ⟨he, hgr, v', h3, h4⟩ := hg
    have hl := takeT_eq hx
    have hs := h.stream hgr ⟨v', h3, h4⟩ (fun y hy => by rw [hl.1]; exact List.mem_cons_of_mem _ hy) (sl' := sl + 100) (by rw [hl.1]; simp; omega)
    exact ⟨he, hs.1, hs.2⟩
theorem RSt.rnext {c : RC} {sl : Nat} {N : Names} {ts : List Tok} {w : World} (h : RSt c sl N ts w) (k : Nat) : Calls Tryd.prog 52 #[.pointer (some ⟨c.S, 0, none⟩), .int .i64 k] w fun e w' => e = .returned (.bool ((ts.head?.map fun t => t.k == k).getD false)) ∧ w = w' := by
  obtain ⟨tv, h1, h2⟩ := h.str
  exact next_tok c.S tv c.E c.br ts k w h1 h2
theorem RSt.rhere {c : RC} {sl : Nat} {N : Names} {ts : List Tok} {w : World} (h : RSt c sl N ts w) : Calls Tryd.prog 57 #[.pointer (some ⟨c.S, 0, none⟩)] w fun e w' => e = .returned (.int .i64 (hereT c.E ts)) ∧ w = w' := by
  obtain ⟨tv, h1, h2⟩ := h.str
  exact here_any c.S tv c.E c.br ts w h1 h2
theorem RSt.cells {c : RC} {sl : Nat} {N : Names} {ts : List Tok} {w : World} (h : RSt c sl N ts w) : w.cell? ⟨c.R, 0, none⟩ = some (.pointer (some ⟨c.S, 0, none⟩)) ∧ w.cell? ⟨c.R, 1, none⟩ = some (.int .i64 c.i) ∧ w.cell? ⟨c.R, 2, none⟩ = some (.int .i64 c.j) ∧ w.cell? ⟨c.R, 5, none⟩ = some (.int .i64 N.length) ∧ c.R < w.heap.size := by
  obtain ⟨lk, n, xv, D, env, r1, _⟩ := h.rdr
  exact ⟨by rw [Lib.cell_of_heap r1]; rfl, by rw [Lib.cell_of_heap r1]; rfl, by rw [Lib.cell_of_heap r1]; rfl, by rw [Lib.cell_of_heap r1]; rfl, hlt_of r1⟩
theorem RSt.tokOk {c : RC} {sl : Nat} {N : Names} {ts r : List Tok} {t : Tok} {k E : Nat} {w : World} (h : RSt c sl N ts w) (hx : takeT E k ts = .ok (t, r)) : t.s.length ≤ 10000000 := h.tok t (by rw [(takeT_eq hx).1]; exact List.mem_cons_self)
def NumG (c : RC) (sl : Nat) (N : Names) (w : World) (x : Except Nat (Int × List Tok)) (e : Ending) (w' : World) : Prop :=
  match x with
  | .error a => e = faultP a ∧ Fr c w w'
  | .ok (n, r) => e = .returned (.int .i64 n) ∧ RSt c sl N r w' ∧ Fr c w w' ∧ 0 ≤ n ∧ n ≤ 10000000
def LevelC (c : RC) (f : Nat) (lv : List Tok → Except Nat (Int × List Tok)) : Prop := ∀ (ts : List Tok) (sl : Nat) (N : Names) (w : World), ts.length < f → RSt c sl N ts w → Calls Tryd.prog 74 #[.pointer (some ⟨c.R, 0, none⟩)] w (NumG c sl N w (lv ts))
theorem LevelC.use {c : RC} {f : Nat} {lv : List Tok → Except Nat (Int × List Tok)} (h : LevelC c f lv) (ts : List Tok) (sl : Nat) (N : Names) (w : World) (h1 : ts.length < f) (h2 : RSt c sl N ts w) : Calls Tryd.prog 74 #[.pointer (some ⟨c.R, 0, none⟩)] w (NumG c sl N w (lv ts)) := h ts sl N w h1 h2
set_option maxRecDepth 20000 in
theorem field_tok (a b d : Value) (w : World) : (Instr.field 63 (.agg #[a, b, d]) 1).run Tryd.prog w = .ok b w := by kernel_rfl
theorem head_k (t : Tok) (r : List Tok) (k : Nat) : (((t :: r).head?.map fun t => t.k == k).getD false) = (t.k == k) := rfl
theorem getB_le {l : List UInt8} {n : Nat} (h : getB l = some n) : n ≤ 1000000 := by
  unfold getB at h
  split at h
  · cases h
  · split at h
    · rename_i h2; cases h; exact h2.2
    · cases h
theorem getV_eq (l : List UInt8) : ∃ b, getV l = .tuple #[.int .i64 ((getB l).getD 0 : Nat), .bool b] := by
  unfold getV
  cases getB l with
  | none => exact ⟨_, rfl⟩
  | some n => exact ⟨_, rfl⟩
theorem getB_d (l : List UInt8) : (getB l).getD 0 ≤ 1000000 := by
  cases e : getB l with
  | none => simp
  | some n => have := getB_le e; simpa using this

set_option maxHeartbeats 4000000 in
set_option maxRecDepth 20000 in
theorem number_any (c : RC) (f : Nat) (lv : List Tok → Except Nat (Int × List Tok)) (hij : (0 ≤ c.i ∧ c.i ≤ 1000) ∧ 0 ≤ c.j ∧ c.j ≤ 1000) (hlv : LevelC c f lv) (hll : ∀ ts n r, lv ts = .ok (n, r) → r.length < ts.length ∧ n ≤ 1000) (ts : List Tok) (sl : Nat) (N : Names) (w : World) (hf : ts.length < f + 1) (h : RSt c sl N ts w) :
    Calls Tryd.prog 78 #[.pointer (some ⟨c.R, 0, none⟩)] w (NumG c sl N w (numP lv c.E c.i c.j ts)) := by
  have HS := Lib.hid h
  have HLV := Lib.hid hlv
  have HLL := Lib.hid hll
  obtain ⟨r0, r1, r2, r5, rlt⟩ := h.cells
  clear h hlv hll
  cases ts with
  | nil =>
    go_enter Tryd.func78, Tryd.ntmps78
    go_wp2_with fail
    refine (HS.out.rnext 4).mono ?_
    rintro e w1 ⟨rfl, rfl⟩
    rw [show ((([] : List Tok).head?.map fun t => t.k == 4).getD false) = false from rfl]
    go_wp2_with fail
    refine (HS.out.rnext 3).mono ?_
    rintro e w1 ⟨rfl, rfl⟩
    rw [show ((([] : List Tok).head?.map fun t => t.k == 3).getD false) = false from rfl]
    go_wp2_with fail
    refine (HS.out.rtake 1).mono ?_
    intro e w1 hg
    obtain ⟨rfl, hf1⟩ : e = faultP c.E ∧ Fr c w w1 := hg
    unfold faultP
    go_wp2
    exact ⟨rfl, rfl, hf1⟩
  | cons t r =>
    simp only [List.length_cons] at hf
    by_cases k4 : t.k = 4
    · have kb : (t.k == 4) = true := by simpa using k4
      have HV := Lib.hid (show numP lv c.E c.i c.j (t :: r) = .ok ((((getB t.s).getD 0 : Nat) : Int), r) by simp only [numP]; rw [if_pos k4])
      have HT := Lib.hid (show takeT c.E 4 (t :: r) = .ok (t, r) from if_pos k4)
      have hgb := getB_d t.s
      obtain ⟨z, hz⟩ : ∃ z, (getB t.s).getD 0 = z := ⟨_, rfl⟩
      have hkl := HS.out.tok t List.mem_cons_self
      have HGE := Lib.hid (getV_eq t.s)
      have hfl := field_tok
      rw [hz] at HV hgb HGE
      clear k4 hz
      go_enter Tryd.func78, Tryd.ntmps78
      go_wp2_with fail
      refine (HS.out.rnext 4).mono ?_
      rintro e w1 ⟨rfl, rfl⟩
      rw [head_k, kb]
      go_wp2_with fail
      refine (HS.out.rtake 4).mono ?_
      intro e w1 hg
      rw [HT.out] at hg
      obtain ⟨rfl, hs1, hf1⟩ := hg
      go_wp2_with fail
      refine (get_any ⟨t.s.toArray⟩ w1 (by show t.s.toArray.size ≤ maxLen; unfold maxLen; rw [List.size_toArray]; omega)).mono ?_
      rintro e w2 ⟨rfl, rfl⟩
      obtain ⟨bb, hbb⟩ := HGE.out
      rw [show (⟨t.s.toArray⟩ : ByteArray).data.toList = t.s from rfl, hbb]
      go_wp2
      go_ret
      rw [HV.out]
      exact ⟨rfl, hs1.less (by omega), hf1, by omega, by omega⟩
    have kb : (t.k == 4) = false := by simpa using k4
    by_cases k3 : t.k = 3
    · have kc : (t.k == 3) = true := by simpa using k3
      have HV := Lib.hid (show numP lv c.E c.i c.j (t :: r) = (if t.s = [105] then .ok (c.i, r) else if t.s = [106] then .ok (c.j, r) else .error t.at_) by simp only [numP]; rw [if_neg k4, if_pos k3])
      have HT := Lib.hid (show takeT c.E 3 (t :: r) = .ok (t, r) from if_pos k3)
      clear k4 k3
      go_enter Tryd.func78, Tryd.ntmps78
      go_wp2_with fail
      refine (HS.out.rnext 4).mono ?_
      rintro e w1 ⟨rfl, rfl⟩
      rw [head_k, kb]
      go_wp2_with fail
      refine (HS.out.rnext 3).mono ?_
      rintro e w1 ⟨rfl, rfl⟩
      rw [head_k, kc]
      go_wp2_with fail
      refine (HS.out.rtake 3).mono ?_
      intro e w1 hg
      rw [HT.out] at hg
      obtain ⟨rfl, hs1, hf1⟩ := hg
      have HS1 := Lib.hid hs1
      have HF1 := Lib.hid hf1
      have HA := Lib.hid (hf1.alloc hs1.lo (.cells #[.int .i64 t.k, .string ⟨t.s.toArray⟩, .int .i64 t.at_] 63))
      have HSA := Lib.hid (hs1.later ((Below.refl _ w1).alloc (Nat.le_refl _) (.cells #[.int .i64 t.k, .string ⟨t.s.toArray⟩, .int .i64 t.at_] 63)))
      clear r0 r1 r2 r5 rlt hs1 hf1
      obtain ⟨r0, r1, r2, r5, rlt⟩ := HS1.out.cells
      by_cases si : t.s = [105]
      · have sb : (t.s == [105]) = true := by simpa using si
        have SI := Lib.hid si
        clear si
        go_wp2
        go_ret
        rw [HV.out, if_pos SI.out]
        exact ⟨rfl, HSA.out.less (by omega), HA.out, hij.1.1, by omega⟩
      · have sb : (t.s == [105]) = false := by simpa using si
        by_cases sj : t.s = [106]
        · have sc : (t.s == [106]) = true := by simpa using sj
          have SJ := Lib.hid sj
          clear sj
          go_wp2
          go_ret
          rw [HV.out, if_neg si, if_pos SJ.out]
          exact ⟨rfl, HSA.out.less (by omega), HA.out, hij.2.1, by omega⟩
        · have sc : (t.s == [106]) = false := by simpa using sj
          go_wp2_with fail
          refine (fail_any _ _).mono ?_
          rintro e w2 ⟨rfl, rfl⟩
          unfold faultP
          go_wp2
          rw [HV.out, if_neg si, if_neg sj]
          exact ⟨rfl, rfl, HA.out⟩
    have kc : (t.k == 3) = false := by simpa using k3
    by_cases k1 : t.k = 1
    · have HV := Lib.hid (show numP lv c.E c.i c.j (t :: r) = numQ lv c.E r by simp only [numP]; rw [if_neg k4, if_neg k3, if_pos k1])
      have HT := Lib.hid (show takeT c.E 1 (t :: r) = .ok (t, r) from if_pos k1)
      clear k1 k3 k4
      go_enter Tryd.func78, Tryd.ntmps78
      go_wp2_with fail
      refine (HS.out.rnext 4).mono ?_
      rintro e w1 ⟨rfl, rfl⟩
      rw [head_k, kb]
      go_wp2_with fail
      refine (HS.out.rnext 3).mono ?_
      rintro e w1 ⟨rfl, rfl⟩
      rw [head_k, kc]
      go_wp2_with fail
      refine (HS.out.rtake 1).mono ?_
      intro e w1 hg
      rw [HT.out] at hg
      obtain ⟨rfl, hs1, hf1⟩ := hg
      have HS1 := Lib.hid hs1
      have HF1 := Lib.hid hf1
      clear r0 r1 r2 r5 rlt hs1 hf1
      obtain ⟨r0, r1, r2, r5, rlt⟩ := HS1.out.cells
      go_wp2_with fail
      refine (HS1.out.rtake 3).mono ?_
      intro e w2 hg2
      cases hx2 : takeT c.E 3 r with
      | error a2 =>
        rw [hx2] at hg2
        obtain ⟨rfl, hf2⟩ := hg2
        unfold faultP
        go_wp2
        rw [HV.out]; unfold numQ; rw [hx2]
        exact ⟨rfl, rfl, HF1.out.trans hf2⟩
      | ok p2 =>
      obtain ⟨t2, q2⟩ := p2
      rw [hx2] at hg2
      obtain ⟨rfl, hs2, hf2⟩ := hg2
      have HS2 := Lib.hid hs2
      have HF2 := Lib.hid hf2
      have hk2 := HS1.out.tokOk hx2
      have HX2 := Lib.hid hx2
      have HXL2 := Lib.hid (takeT_len hx2)
      clear hs2 hf2 hx2 r0 r1 r2 r5 rlt
      obtain ⟨r0, r1, r2, r5, rlt⟩ := HS2.out.cells
      have HA := Lib.hid (HF2.out.alloc HS2.out.lo (.cells #[.int .i64 t2.k, .string ⟨t2.s.toArray⟩, .int .i64 t2.at_] 63))
      have HSA := Lib.hid (HS2.out.later ((Below.refl _ w2).alloc (Nat.le_refl _) (.cells #[.int .i64 t2.k, .string ⟨t2.s.toArray⟩, .int .i64 t2.at_] 63)))
      by_cases si : t2.s = [115, 117, 99]
      · have sb : (t2.s == [115, 117, 99]) = true := by simpa using si
        have SI := Lib.hid si
        clear si
        go_wp2_with fail
        refine (HLV.out.use q2 _ N _ (by have := HXL2.out; omega) HSA.out).mono ?_
        intro e w3 hg3
        cases hx3 : lv q2 with
        | error a3 =>
          rw [hx3] at hg3
          obtain ⟨rfl, hf3⟩ := hg3
          unfold faultP
          go_wp2
          rw [HV.out]; unfold numQ; rw [HX2.out]; simp only; rw [if_pos SI.out, hx3]
          exact ⟨rfl, rfl, (HF1.out.trans HA.out).trans hf3⟩
        | ok p3 =>
        obtain ⟨n3, q3⟩ := p3
        rw [hx3] at hg3
        obtain ⟨rfl, hs3, hf3, hlo3, -⟩ := hg3
        have hhi3 := (HLL.out _ _ _ hx3).2
        have HLN3 := Lib.hid (HLL.out _ _ _ hx3).1
        have HS3 := Lib.hid hs3
        have HF3 := Lib.hid hf3
        have HL3 := Lib.hid hx3
        clear hs3 hf3 hx3 r0 r1 r2 r5 rlt
        obtain ⟨r0, r1, r2, r5, rlt⟩ := HS3.out.cells
        go_wp2_with fail
        refine (HS3.out.rtake 2).mono ?_
        intro e w4 hg4
        cases hx4 : takeT c.E 2 q3 with
        | error a4 =>
          rw [hx4] at hg4
          obtain ⟨rfl, hf4⟩ := hg4
          unfold faultP
          go_wp2
          rw [HV.out]; unfold numQ; rw [HX2.out]; simp only; rw [if_pos SI.out, HL3.out]; simp only; rw [hx4]
          exact ⟨rfl, rfl, (HF1.out.trans HA.out).trans (HF3.out.trans hf4)⟩
        | ok p4 =>
        obtain ⟨t4, q4⟩ := p4
        rw [hx4] at hg4
        obtain ⟨rfl, hs4, hf4⟩ := hg4
        have HS4 := Lib.hid hs4
        have HF4 := Lib.hid hf4
        have hk4 := HS3.out.tokOk hx4
        have HX4 := Lib.hid hx4
        have HXL4 := Lib.hid (takeT_len hx4)
        clear hs4 hf4 hx4 r0 r1 r2 r5 rlt
        obtain ⟨r0, r1, r2, r5, rlt⟩ := HS4.out.cells
        go_wp2
        go_ret
        rw [HV.out]; unfold numQ; rw [HX2.out]; simp only; rw [if_pos SI.out, HL3.out]; simp only; rw [HX4.out]
        exact ⟨rfl, HS4.out.less (by omega), (HF1.out.trans HA.out).trans (HF3.out.trans HF4.out), by omega, by omega⟩
      · have sb : (t2.s == [115, 117, 99]) = false := by simpa using si
        by_cases sj : t2.s = [109, 97, 120]
        · have sc : (t2.s == [109, 97, 120]) = true := by simpa using sj
          have SJ := Lib.hid sj
          clear sj
          go_wp2_with fail
          refine (HLV.out.use q2 _ N _ (by have := HXL2.out; omega) HSA.out).mono ?_
          intro e w3 hg3
          cases hx3 : lv q2 with
          | error a3 =>
            rw [hx3] at hg3
            obtain ⟨rfl, hf3⟩ := hg3
            unfold faultP
            go_wp2
            rw [HV.out]; unfold numQ; rw [HX2.out]; simp only; rw [if_neg si, if_pos SJ.out, hx3]
            exact ⟨rfl, rfl, (HF1.out.trans HA.out).trans hf3⟩
          | ok p3 =>
          obtain ⟨n3, q3⟩ := p3
          rw [hx3] at hg3
          obtain ⟨rfl, hs3, hf3, hlo3, -⟩ := hg3
          have hhi3 := (HLL.out _ _ _ hx3).2
          have HLN3 := Lib.hid (HLL.out _ _ _ hx3).1
          have HS3 := Lib.hid hs3
          have HF3 := Lib.hid hf3
          have HL3 := Lib.hid hx3
          clear hs3 hf3 hx3 r0 r1 r2 r5 rlt
          obtain ⟨r0, r1, r2, r5, rlt⟩ := HS3.out.cells
          go_wp2_with fail
          refine (HLV.out.use q3 _ N _ (by have := HXL2.out; have := HLN3.out; omega) HS3.out).mono ?_
          intro e w5 hg5
          cases hx5 : lv q3 with
          | error a5 =>
            rw [hx5] at hg5
            obtain ⟨rfl, hf5⟩ := hg5
            unfold faultP
            go_wp2
            rw [HV.out]; unfold numQ; rw [HX2.out]; simp only; rw [if_neg si, if_pos SJ.out, HL3.out]; simp only; rw [hx5]
            exact ⟨rfl, rfl, (HF1.out.trans HA.out).trans (HF3.out.trans hf5)⟩
          | ok p5 =>
          obtain ⟨n5, q5⟩ := p5
          rw [hx5] at hg5
          obtain ⟨rfl, hs5, hf5, hlo5, -⟩ := hg5
          have hhi5 := (HLL.out _ _ _ hx5).2
          have HLN5 := Lib.hid (HLL.out _ _ _ hx5).1
          have HS5 := Lib.hid hs5
          have HF5 := Lib.hid hf5
          have HL5 := Lib.hid hx5
          clear hs5 hf5 hx5 r0 r1 r2 r5 rlt
          obtain ⟨r0, r1, r2, r5, rlt⟩ := HS5.out.cells
          go_wp2_with fail
          refine (HS5.out.rtake 2).mono ?_
          intro e w4 hg4
          cases hx4 : takeT c.E 2 q5 with
          | error a4 =>
            rw [hx4] at hg4
            obtain ⟨rfl, hf4⟩ := hg4
            unfold faultP
            go_wp2
            rw [HV.out]; unfold numQ; rw [HX2.out]; simp only; rw [if_neg si, if_pos SJ.out, HL3.out]; simp only; rw [HL5.out]; simp only; rw [hx4]
            exact ⟨rfl, rfl, (HF1.out.trans HA.out).trans (HF3.out.trans (HF5.out.trans hf4))⟩
          | ok p4 =>
          obtain ⟨t4, q4⟩ := p4
          rw [hx4] at hg4
          obtain ⟨rfl, hs4, hf4⟩ := hg4
          have HS4 := Lib.hid hs4
          have HF4 := Lib.hid hf4
          have hk4 := HS5.out.tokOk hx4
          have HX4 := Lib.hid hx4
          have HXL4 := Lib.hid (takeT_len hx4)
          clear hs4 hf4 hx4 r0 r1 r2 r5 rlt
          obtain ⟨r0, r1, r2, r5, rlt⟩ := HS4.out.cells
          go_wp2
          go_ret
          rw [HV.out]; unfold numQ; rw [HX2.out]; simp only; rw [if_neg si, if_pos SJ.out, HL3.out]; simp only; rw [HL5.out]; simp only; rw [HX4.out]
          exact ⟨rfl, HS4.out.less (by omega), (HF1.out.trans HA.out).trans (HF3.out.trans (HF5.out.trans HF4.out)), by omega, by omega⟩
        · have sc : (t2.s == [109, 97, 120]) = false := by simpa using sj
          go_wp2_with fail
          refine (fail_any _ _).mono ?_
          rintro e w3 ⟨rfl, rfl⟩
          unfold faultP
          go_wp2
          rw [HV.out]; unfold numQ; rw [HX2.out]; simp only; rw [if_neg si, if_neg sj]
          exact ⟨rfl, rfl, HF1.out.trans HA.out⟩
    · have HV := Lib.hid (show numP lv c.E c.i c.j (t :: r) = .error t.at_ by simp only [numP]; rw [if_neg k4, if_neg k3, if_neg k1])
      have HT := Lib.hid (show takeT c.E 1 (t :: r) = .error t.at_ from if_neg k1)
      clear k1 k3 k4
      go_enter Tryd.func78, Tryd.ntmps78
      go_wp2_with fail
      refine (HS.out.rnext 4).mono ?_
      rintro e w1 ⟨rfl, rfl⟩
      rw [head_k, kb]
      go_wp2_with fail
      refine (HS.out.rnext 3).mono ?_
      rintro e w1 ⟨rfl, rfl⟩
      rw [head_k, kc]
      go_wp2_with fail
      refine (HS.out.rtake 1).mono ?_
      intro e w1 hg
      rw [HT.out] at hg
      obtain ⟨rfl, hf1⟩ := hg
      unfold faultP
      go_wp2
      rw [HV.out]
      exact ⟨rfl, rfl, hf1⟩
end Go.Proofs.YtpekceadjcbphaaDoor

namespace Go.Proofs.YtpekceadjcbphaaDoor
open Go.RowKit

mutual
def Tm.size : Tm → Nat
  | .mk _ _ _ _ l => sizes l + 1
def sizes : List Tm → Nat
  | [] => 0
  | t :: r => t.size + sizes r
end

theorem Tm.size_eq (t : Tm) : t.size = sizes t.kids + 1 := by cases t; rfl

end Go.Proofs.YtpekceadjcbphaaDoor

namespace Go.Proofs.YtpekceadjcbphaaDoor
open Go.RowKit

/-- The five cells of an element, written one behind the other. -/
def put5 (w : World) (g o : Nat) (t : Tm) (s : Value) : World := ((((w.setCell ⟨g, o, none⟩ (.int .i64 t.k)).setCell ⟨g, o + 1, none⟩ (.int .i64 t.i)).setCell ⟨g, o + 2, none⟩ (.int .i64 t.j)).setCell ⟨g, o + 3, none⟩ (.int .i64 t.n)).setCell ⟨g, o + 4, none⟩ s

theorem put5_other (w : World) (g o : Nat) (t : Tm) (s : Value) {b : Nat} (h : b ≠ g) : (put5 w g o t s).heap[b]? = w.heap[b]? := by
  unfold put5; repeat rw [Below.heap_setCell _ _ _ _ (by exact h)]
theorem put5_rest (w : World) (g o : Nat) (t : Tm) (s : Value) : (put5 w g o t s).os = w.os ∧ (put5 w g o t s).tape = w.tape ∧ (put5 w g o t s).output = w.output := by simp [put5, World.setCell]
theorem put5_size (w : World) (g o : Nat) (t : Tm) (s : Value) : (put5 w g o t s).heap.size = w.heap.size := by simp [put5, World.setCell]
theorem put5_block {w : World} {g : Nat} {cs : Array Value} {T : TypeId} (o : Nat) (t : Tm) (s : Value) (h : w.heap[g]? = some (.cells cs T (0, 0))) :
    (put5 w g o t s).heap[g]? = some (.cells (((((cs.setIfInBounds o (.int .i64 t.k)).setIfInBounds (o + 1) (.int .i64 t.i)).setIfInBounds (o + 2) (.int .i64 t.j)).setIfInBounds (o + 3) (.int .i64 t.n)).setIfInBounds (o + 4) s) T (0, 0)) :=
  heap_setCell_same _ _ _ _ _ _ (heap_setCell_same _ _ _ _ _ _ (heap_setCell_same _ _ _ _ _ _ (heap_setCell_same _ _ _ _ _ _ (heap_setCell_same _ _ _ _ _ _ h))))
theorem put5_out (w : World) (g o : Nat) (t : Tm) (s : Value) {q : Nat} (h : q < o ∨ o + 5 ≤ q) : (put5 w g o t s).cell? ⟨g, q, none⟩ = w.cell? ⟨g, q, none⟩ := by
  unfold put5
  repeat rw [World.cell?_setCell_other _ _ _ _ (by intro e; have := congrArg Addr.off e; simp only at this; omega)]
theorem put5_node {w : World} {g o : Nat} {t0 : Tm} {s0 : Value} (t : Tm) (s : Value) (h : Node w g o t0 s0) : Node (put5 w g o t s) g o t s := by
  have ne : ∀ p q : Nat, p ≠ q → (⟨g, p, none⟩ : Addr) ≠ ⟨g, q, none⟩ := fun p q hpq e => hpq (congrArg Addr.off e)
  unfold put5
  refine ⟨?_, ?_, ?_, ?_, ?_⟩
  · rw [World.cell?_setCell_other _ _ _ _ (ne _ _ (by omega)), World.cell?_setCell_other _ _ _ _ (ne _ _ (by omega)), World.cell?_setCell_other _ _ _ _ (ne _ _ (by omega)), World.cell?_setCell_other _ _ _ _ (ne _ _ (by omega))]
    exact World.cell?_setCell_same _ _ _ h.c0
  · rw [World.cell?_setCell_other _ _ _ _ (ne _ _ (by omega)), World.cell?_setCell_other _ _ _ _ (ne _ _ (by omega)), World.cell?_setCell_other _ _ _ _ (ne _ _ (by omega))]
    refine World.cell?_setCell_same _ _ _ (u := .int .i64 t0.i) ?_
    rw [World.cell?_setCell_other _ _ _ _ (ne _ _ (by omega))]; exact h.c1
  · rw [World.cell?_setCell_other _ _ _ _ (ne _ _ (by omega)), World.cell?_setCell_other _ _ _ _ (ne _ _ (by omega))]
    refine World.cell?_setCell_same _ _ _ (u := .int .i64 t0.j) ?_
    rw [World.cell?_setCell_other _ _ _ _ (ne _ _ (by omega)), World.cell?_setCell_other _ _ _ _ (ne _ _ (by omega))]; exact h.c2
  · rw [World.cell?_setCell_other _ _ _ _ (ne _ _ (by omega))]
    refine World.cell?_setCell_same _ _ _ (u := .int .i64 t0.n) ?_
    rw [World.cell?_setCell_other _ _ _ _ (ne _ _ (by omega)), World.cell?_setCell_other _ _ _ _ (ne _ _ (by omega)), World.cell?_setCell_other _ _ _ _ (ne _ _ (by omega))]; exact h.c3
  · refine World.cell?_setCell_same _ _ _ (u := s0) ?_
    rw [World.cell?_setCell_other _ _ _ _ (ne _ _ (by omega)), World.cell?_setCell_other _ _ _ _ (ne _ _ (by omega)), World.cell?_setCell_other _ _ _ _ (ne _ _ (by omega)), World.cell?_setCell_other _ _ _ _ (ne _ _ (by omega))]; exact h.c4
/-- Another element's cells stay. -/
theorem put5_keep {w : World} {g o o' b : Nat} {t x : Tm} {s sx : Value} (h : Node w b o' x sx) (hne : b ≠ g ∨ o' + 5 ≤ o ∨ o + 5 ≤ o') : Node (put5 w g o t s) b o' x sx := by
  by_cases hb : b = g
  · subst hb
    have hne' : o' + 5 ≤ o ∨ o + 5 ≤ o' := hne.resolve_left (fun h => h rfl)
    exact ⟨(put5_out _ _ _ _ _ (by omega)).trans h.c0, (put5_out _ _ _ _ _ (by omega)).trans h.c1, (put5_out _ _ _ _ _ (by omega)).trans h.c2, (put5_out _ _ _ _ _ (by omega)).trans h.c3, (put5_out _ _ _ _ _ (by omega)).trans h.c4⟩
  · exact h.same (put5_other _ _ _ _ _ hb)

/-- A list that was made whole and is filled from the left: block g; xs: the terms as they stand there now. -/
structure Full (B : Nat) (w : World) (g : Nat) (xs : List (Tm × Value)) : Prop where
  above : B ≤ g
  open' : ∃ cs, w.heap[g]? = some (.cells cs 26 (0, 0))
  node : ∀ i (h : i < xs.length), Node w g (i * 5) (xs[i]).1 (xs[i]).2
  fine : ∀ p ∈ xs, p.1.fine
  kids : ∀ p ∈ xs, LiesP w (fun b => Own B w b ∧ b ≠ g) p.1.kids p.2

theorem Full.later {B g : Nat} {w w' : World} {xs : List (Tm × Value)} (h : Full B w g xs) (hb : Below w.heap.size w w') : Full B w' g xs := by
  have hg : g < w.heap.size := by obtain ⟨cs, h⟩ := h.open'; exact (Array.getElem?_eq_some_iff.1 h).1
  exact ⟨h.above, by rw [hb.block g hg]; exact h.open', fun i hi => (h.node i hi).below hb hg, h.fine, fun p hp => (h.kids p hp).keep (fun b _ hlt => hb.block b hlt) (fun _ hq _ => ⟨hq.1.later hb, hq.2⟩)⟩

/-- A new term is laid into it. -/
theorem Full.fill {B g k : Nat} {w : World} {xs : List (Tm × Value)} {t : Tm} {s : Value} (h : Full B w g xs) (hk : k < xs.length) (hf : t.fine) (hl : LiesP w (fun b => Own B w b ∧ b ≠ g) t.kids s) :
    Full B (put5 w g (k * 5) t s) g (xs.set k (t, s)) := by
  have keepL : ∀ l s', LiesP w (fun b => Own B w b ∧ b ≠ g) l s' → LiesP (put5 w g (k * 5) t s) (fun b => Own B (put5 w g (k * 5) t s) b ∧ b ≠ g) l s' := fun l s' h' =>
    h'.keep (fun b hb _ => put5_other _ _ _ _ _ hb.2) (fun b hb _ => ⟨hb.1.same (put5_other _ _ _ _ _ hb.2), hb.2⟩)
  refine ⟨h.above, ?_, fun i hi => ?_, fun p hp => ?_, fun p hp => ?_⟩
  · obtain ⟨cs, hcs⟩ := h.open'; exact ⟨_, put5_block _ _ _ hcs⟩
  · have hi' : i < xs.length := by simpa using hi
    by_cases e : k = i
    · subst e
      simp only [List.getElem_set_self]
      exact put5_node t s (h.node k hk)
    · rw [List.getElem_set_ne e]
      exact put5_keep (h.node i hi') (Or.inr (by omega))
  · rcases List.mem_or_eq_of_mem_set hp with hp | rfl
    · exact h.fine p hp
    · exact hf
  · rcases List.mem_or_eq_of_mem_set hp with hp | rfl
    · exact keepL _ _ (h.kids p hp)
    · exact keepL _ _ hl

/-- A term that a call has just made may be laid into it. -/
theorem Full.fresh {B g : Nat} {wr w2 : World} {xs : List (Tm × Value)} {l : List Tm} {s2 : Value} (h : Full B wr g xs) (hB : B ≤ wr.heap.size) (hk : LiesP w2 (Own wr.heap.size w2) l s2) : LiesP w2 (fun b => Own B w2 b ∧ b ≠ g) l s2 := by
  have hg : g < wr.heap.size := by obtain ⟨cs, h⟩ := h.open'; exact (Array.getElem?_eq_some_iff.1 h).1
  exact hk.keep (fun _ _ _ => rfl) (fun b hb _ => ⟨hb.from hB, by have := hb.1; omega⟩)

/-- The whole list as terms of the call's own memory. -/
theorem Full.lies {B g cap : Nat} {w : World} {xs : List (Tm × Value)} (h : Full B w g xs) (hc : xs.length ≤ cap) (hm : cap ≤ maxLen) : LiesP w (Own B w) (xs.map (·.1)) (.slice (some ⟨g, 0, none⟩) xs.length cap) := by
  have := LiesP.mk (w := w) (P := Own B w) (xs.map (·.1)) (some ⟨g, 0, none⟩) cap (fun i => (xs[i]?.map (·.2)).getD (.slice none 0 0)) (by simpa using hc) hm
    (fun x hx => by obtain ⟨p, hp, rfl⟩ := List.mem_map.1 hx; exact h.fine p hp)
    (fun i hi => by
      have hi' : i < xs.length := by simpa using hi
      refine ⟨g, rfl, ⟨h.above, h.open'⟩, ?_⟩
      simp only [List.getElem_map, List.getElem?_eq_getElem hi', Option.map_some, Option.getD_some]
      exact h.node i hi')
    (fun i hi => by
      have hi' : i < xs.length := by simpa using hi
      simp only [List.getElem_map, List.getElem?_eq_getElem hi', Option.map_some, Option.getD_some]
      exact (h.kids _ (List.getElem_mem hi')).keep (fun _ _ _ => rfl) (fun _ hb _ => hb.1))
  simpa using this

theorem liesP_nil (w : World) (P : Nat → Prop) : LiesP w P [] (.slice none 0 0) := .mk [] none 0 (fun _ => .nilIface) (Nat.le_refl _) (by decide) (fun _ h => by cases h) (fun _ h => by cases h) (fun _ h => by cases h)

/-- All blocks of which P speaks are open. -/
def Free (P : Nat → Prop) (w : World) : Prop := ∀ b, P b → ∃ cs, w.heap[b]? = some (.cells cs 26 (0, 0))

/-- Whatever lay there lies there still, no greater than it was; what P doesn't speak of is as it was. -/
def Shr (P : Nat → Prop) (w w' : World) : Prop := Free P w' ∧ w.heap.size ≤ w'.heap.size ∧ (w'.os = w.os ∧ w'.tape = w.tape ∧ w'.output = w.output) ∧ (∀ b, b < w.heap.size → ¬ P b → w'.heap[b]? = w.heap[b]?) ∧ ∀ l s, LiesP w P l s → ∃ l', l'.length = l.length ∧ sizes l' ≤ sizes l ∧ LiesP w' P l' s

theorem sizes_map_le {n : Nat} (f : Nat → Tm) : ∀ (l : List Tm), l.length = n → (∀ i (h : i < l.length), (f i).size ≤ (l[i]).size) → sizes ((List.range n).map f) ≤ sizes l := by
  intro l hl h
  subst hl
  induction l generalizing f with
  | nil => simp [sizes]
  | cons a r ih =>
    have h0 := h 0 (by simp)
    simp only [List.getElem_cons_zero] at h0
    have := ih (fun i => f (i + 1)) (fun i hi => by have := h (i + 1) (by simpa using hi); simpa using this)
    rw [List.length_cons, List.range_succ_eq_map, List.map_cons, List.map_map]
    simp only [sizes]
    have e : ((fun i => f (i + 1))) = f ∘ Nat.succ := rfl
    rw [e] at this
    omega

instance : Inhabited (Tm × Value) := ⟨(.mk 0 0 0 0 [], .nilIface)⟩

/-- An element is overwritten by a term without kids. -/
theorem LiesP.store {w : World} {P : Nat → Prop} {g j : Nat} {z : Tm} (hz : z.kids = []) (hzf : z.fine) {l : List Tm} {s : Value} (h : LiesP w P l s) :
    ∃ l', l'.length = l.length ∧ sizes l' ≤ sizes l ∧ LiesP (put5 w g (j * 5) z (.slice none 0 0)) P l' s := by
  induction h with
  | mk l a cap S hc hm hf hn hk ih =>
    have key : ∀ i, i < l.length → ∃ p : Tm × Value, p.1.fine ∧ (∀ h : i < l.length, p.1.size ≤ (l[i]).size) ∧ LiesP (put5 w g (j * 5) z (.slice none 0 0)) P p.1.kids p.2 ∧ ∃ b, a = some ⟨b, 0, none⟩ ∧ P b ∧ Node (put5 w g (j * 5) z (.slice none 0 0)) b (i * 5) p.1 p.2 := by
      intro i hi
      obtain ⟨b, ha, hp, hx⟩ := hn i hi
      by_cases e : b = g ∧ i = j
      · obtain ⟨rfl, rfl⟩ := e
        refine ⟨(z, .slice none 0 0), hzf, fun _ => ?_, by rw [hz]; exact liesP_nil _ _, b, ha, hp, put5_node _ _ hx⟩
        rw [Tm.size_eq, Tm.size_eq, hz]; simp [sizes]
      · obtain ⟨l', h1, h2, h3⟩ := ih i hi
        have hfi := hf _ (List.getElem_mem hi)
        refine ⟨(.mk (l[i]).k (l[i]).i (l[i]).j (l[i]).n l', S i), hfi, fun _ => ?_, h3, b, ha, hp, ?_⟩
        · rw [Tm.size_eq, Tm.size_eq]; show sizes l' + 1 ≤ _; omega
        · have : Node w b (i * 5) (.mk (l[i]).k (l[i]).i (l[i]).j (l[i]).n l') (S i) := ⟨hx.c0, hx.c1, hx.c2, hx.c3, hx.c4⟩
          exact put5_keep this (by by_cases hb : b = g
                                   · right; have : i ≠ j := fun e' => e ⟨hb, e'⟩; omega
                                   · exact Or.inl hb)
    obtain ⟨f, hf'⟩ := Go.Deep.choose_lt (α := Tm × Value) (p := fun i p => p.1.fine ∧ (∀ h : i < l.length, p.1.size ≤ (l[i]).size) ∧ LiesP (put5 w g (j * 5) z (.slice none 0 0)) P p.1.kids p.2 ∧ ∃ b, a = some ⟨b, 0, none⟩ ∧ P b ∧ Node (put5 w g (j * 5) z (.slice none 0 0)) b (i * 5) p.1 p.2) key
    have hl5 : ((List.range l.length).map fun i => (f i).1).length = l.length := by simp
    refine ⟨(List.range l.length).map fun i => (f i).1, hl5, sizes_map_le (fun i => (f i).1) l rfl (fun i hi => (hf' i hi).2.1 hi), ?_⟩
    have := LiesP.mk (w := put5 w g (j * 5) z (.slice none 0 0)) (P := P) ((List.range l.length).map fun i => (f i).1) a cap (fun i => (f i).2) (by simpa using hc) hm
      (fun x hx => by obtain ⟨i, hi, rfl⟩ := List.mem_map.1 hx; exact (hf' i (List.mem_range.1 hi)).1)
      (fun i hi => by obtain ⟨b, ha, hp, hn⟩ := (hf' i (by simpa using hi)).2.2.2; exact ⟨b, ha, hp, by simpa using hn⟩)
      (fun i hi => by simpa using (hf' i (by simpa using hi)).2.2.1)
    rwa [hl5] at this

theorem Shr.trans {P : Nat → Prop} {w w1 w2 : World} (h : Shr P w w1) (h' : Shr P w1 w2) : Shr P w w2 := by
  obtain ⟨a1, a2, a3, a4, a5⟩ := h
  obtain ⟨b1, b2, b3, b4, b5⟩ := h'
  refine ⟨b1, Nat.le_trans a2 b2, ⟨b3.1.trans a3.1, b3.2.1.trans a3.2.1, b3.2.2.trans a3.2.2⟩, fun b hb hp => (b4 b (by omega) hp).trans (a4 b hb hp), fun l s hl => ?_⟩
  obtain ⟨l1, e1, f1, g1⟩ := a5 l s hl
  obtain ⟨l2, e2, f2, g2⟩ := b5 l1 s g1
  exact ⟨l2, e2.trans e1, Nat.le_trans f2 f1, g2⟩

theorem Shr.put {P : Nat → Prop} {w : World} {g j : Nat} {z : Tm} (hz : z.kids = []) (hzf : z.fine) (hf : Free P w) (hg : P g) : Shr P w (put5 w g (j * 5) z (.slice none 0 0)) := by
  refine ⟨fun b hb => ?_, by rw [put5_size]; exact Nat.le_refl _, put5_rest _ _ _ _ _, fun b _ hp => put5_other _ _ _ _ _ (fun e => hp (e ▸ hg)), fun l s hl => hl.store hz hzf⟩
  by_cases e : b = g
  · subst e; obtain ⟨cs, hcs⟩ := hf b hb; exact ⟨_, put5_block _ _ _ hcs⟩
  · rw [put5_other _ _ _ _ _ e]; exact hf b hb

theorem Shr.alloc {P : Nat → Prop} {w : World} (o : Obj) (hP : ∀ b, P b → b < w.heap.size) (hf : Free P w) : Shr P w (w.alloc o) :=
  ⟨fun b hb => by rw [Below.heap_alloc _ _ _ (hP b hb)]; exact hf b hb, by simp, ⟨rfl, rfl, rfl⟩, fun b hb _ => Below.heap_alloc _ _ _ hb,
    fun l s hl => ⟨l, rfl, Nat.le_refl _, hl.keep (fun b _ hlt => Below.heap_alloc _ _ _ hlt) (fun _ hp _ => hp)⟩⟩

theorem Shr.below {P : Nat → Prop} {w w' : World} {B : Nat} (h : Shr P w w') (hP : ∀ b, P b → B ≤ b) (hB : B ≤ w.heap.size) : Below B w w' :=
  ⟨h.2.2.1.1, h.2.2.1.2.1, h.2.2.1.2.2, h.2.1, fun k hk => h.2.2.2.1 k (by omega) (fun hp => by have := hP k hp; omega)⟩
end Go.Proofs.YtpekceadjcbphaaDoor

namespace Go.Proofs.YtpekceadjcbphaaDoor
open Go.RowKit

theorem LiesP.out {w : World} {P : Nat → Prop} {l : List Tm} {s : Value} (h : LiesP w P l s) : ∃ (a : Option Addr) (cap : Nat), s = .slice a l.length cap ∧ l.length ≤ cap ∧ cap ≤ maxLen := by
  cases h with
  | mk l a cap S hc hm hf hn hk => exact ⟨a, cap, rfl, hc, hm⟩

theorem under_term : ∃ d, Tryd.prog.underlying 26 = some d ∧ (match d with | .struct _ | .array _ _ => true | _ => false) = true := by
  have h : (Tryd.prog.underlying 26).map (fun d => match d with | .struct _ | .array _ _ => true | _ => false) = some true := by kernel_rfl
  cases e : Tryd.prog.underlying 26 with
  | none => rw [e] at h; cases h
  | some d => rw [e] at h; exact ⟨d, rfl, Option.some.inj h⟩

theorem size_term : (Tryd.prog.info? 26).map (·.size) = some 5 := by kernel_rfl

end Go.Proofs.YtpekceadjcbphaaDoor

namespace Go.Proofs.YtpekceadjcbphaaDoor
open Go.RowKit Go.Maps Go.ChangeShapes

theorem levelP_most {E : Nat} {i j : Int} {f : Nat} {ts r : List Tok} {n : Int} (h : levelP E i j f ts = .ok (n, r)) : n ≤ 1000 := by
  cases f with
  | zero => cases h
  | succ f =>
    unfold levelP at h
    split at h
    · cases h
    · split at h
      · cases h
      · cases h; omega
set_option maxHeartbeats 2000000 in
set_option maxRecDepth 20000 in
theorem rlevel_any (c : RC) (hij : (0 ≤ c.i ∧ c.i ≤ 1000) ∧ 0 ≤ c.j ∧ c.j ≤ 1000) : ∀ f, LevelC c f (levelP c.E c.i c.j f)
  | 0 => fun ts sl N w hf _ => by omega
  | f + 1 => fun ts sl N w hf h => by
    have hn := number_any c f (levelP c.E c.i c.j f) hij (rlevel_any c hij f) (fun ts n r h => ⟨levelP_len h, levelP_most h⟩) ts sl N w hf h
    have HN := Lib.hid hn
    have HS := Lib.hid h
    obtain ⟨r0, r1, r2, r5, rlt⟩ := h.cells
    have HV := Lib.hid (show levelP c.E c.i c.j (f + 1) ts = (match numP (levelP c.E c.i c.j f) c.E c.i c.j ts with | .error e => .error e | .ok (n, r) => if 1000 < n then .error (hereT c.E ts) else .ok (n, r)) from rfl)
    clear hn h
    go_enter Tryd.func74, Tryd.ntmps74
    go_wp2_with fail
    refine (HS.out.rhere).mono ?_
    rintro e w1 ⟨rfl, rfl⟩
    go_wp2_with fail
    refine HN.out.mono ?_
    intro e w1 hg
    cases hx : numP (levelP c.E c.i c.j f) c.E c.i c.j ts with
    | error a =>
      rw [hx] at hg
      obtain ⟨rfl, hf1⟩ := hg
      unfold faultP
      go_wp2
      rw [HV.out, hx]
      exact ⟨rfl, rfl, hf1⟩
    | ok p =>
      obtain ⟨n, r⟩ := p
      rw [hx] at hg
      obtain ⟨rfl, hs1, hf1, h0, h1⟩ := hg
      by_cases hb : 1000 < n
      · go_wp2_with fail
        refine (fail_any _ _).mono ?_
        rintro e w2 ⟨rfl, rfl⟩
        unfold faultP
        go_wp2
        rw [HV.out, hx]; simp only; rw [if_pos hb]
        exact ⟨rfl, rfl, hf1⟩
      · go_wp2
        go_ret
        rw [HV.out, hx]; simp only; rw [if_neg (by omega)]
        exact ⟨rfl, hs1, hf1, h0, h1⟩
def TermG (c : RC) (sl : Nat) (N : Names) (w : World) (x : Except Nat (Tm × List Tok)) (e : Ending) (w' : World) : Prop :=
  match x with
  | .error a => e = faultP a ∧ Fr c w w'
  | .ok (t, r) => ∃ s, e = .returned (tv t s) ∧ LiesP w' (Own w.heap.size w') t.kids s ∧ t.fine ∧ RSt c sl N r w' ∧ Fr c w w'
def KidsG (c : RC) (sl : Nat) (N : Names) (w : World) (x : Except Nat (List Tm × List Tok)) (e : Ending) (w' : World) : Prop :=
  match x with
  | .error a => e = faultP a ∧ Fr c w w'
  | .ok (l, r) => ∃ s, e = .returned s ∧ LiesP w' (Own w.heap.size w') l s ∧ RSt c sl N r w' ∧ Fr c w w'
def TermC (c : RC) (f : Nat) (tp : Int → Names → List Tok → Except Nat (Tm × List Tok)) : Prop := ∀ (so : Int) (N : Names) (ts : List Tok) (sl : Nat) (w : World), ts.length < f → RSt c sl N ts w → TabsR c.B w → Calls Tryd.prog 38 #[.pointer (some ⟨c.R, 0, none⟩), .int .i64 so] w (TermG c sl N w (tp so N ts))
theorem TermC.use {c : RC} {f : Nat} {tp : Int → Names → List Tok → Except Nat (Tm × List Tok)} (h : TermC c f tp) (so : Int) (N : Names) (ts : List Tok) (sl : Nat) (w : World) (h1 : ts.length < f) (h2 : RSt c sl N ts w) (h3 : TabsR c.B w) : Calls Tryd.prog 38 #[.pointer (some ⟨c.R, 0, none⟩), .int .i64 so] w (TermG c sl N w (tp so N ts)) := h so N ts sl w h1 h2 h3
/-- What a reading has made stays while it goes on. -/
theorem own_fr {c : RC} {w w' : World} {B : Nat} (h : Fr c w w') {b : Nat} (ho : Own B w b) : w'.heap[b]? = w.heap[b]? := by
  obtain ⟨_, cs, hb⟩ := ho
  rw [hb]
  exact h.kept b cs _ _ hb (by decide) (by decide) (by decide)
theorem liesP_fr {c : RC} {w w' : World} {B : Nat} {l : List Tm} {s : Value} (h : LiesP w (Own B w) l s) (hf : Fr c w w') : LiesP w' (Own B w') l s := h.keep (fun _ hb _ => own_fr hf hb) (fun _ hb _ => hb.same (own_fr hf hb))
theorem full_fr {c : RC} {w w' : World} {B g : Nat} {xs : List (Tm × Value)} (h : Full B w g xs) (hf : Fr c w w') : Full B w' g xs := by
  obtain ⟨cs, hg⟩ := h.open'
  have e : w'.heap[g]? = w.heap[g]? := by rw [hg]; exact hf.kept g cs _ _ hg (by decide) (by decide) (by decide)
  exact ⟨h.above, ⟨cs, e.trans hg⟩, fun i hi => (h.node i hi).same e, h.fine, fun p hp => (h.kids p hp).keep (fun b hb _ => own_fr hf hb.1) (fun b hb _ => ⟨hb.1.same (own_fr hf hb.1), hb.2⟩)⟩
/-- Five cells of a block, written one behind the other. -/
def cell5 (w : World) (g o : Nat) (v0 v1 v2 v3 v4 : Value) : World := ((((w.setCell ⟨g, o, none⟩ v0).setCell ⟨g, o + 1, none⟩ v1).setCell ⟨g, o + 2, none⟩ v2).setCell ⟨g, o + 3, none⟩ v3).setCell ⟨g, o + 4, none⟩ v4
theorem cell5_grown (w : World) (g o : Nat) (v0 v1 v2 v3 v4 : Value) : w.grownBy (cell5 w g o v0 v1 v2 v3 v4) (some g) := by
  have s : ∀ (w : World) i v, w.grownBy (w.setCell ⟨g, i, none⟩ v) (some g) := fun w i v => grown_at ⟨rfl, rfl, rfl, Nat.le_refl _, fun _ _ _ => rfl⟩ i v
  exact ((((s w _ _).trans (s _ _ _)).trans (s _ _ _)).trans (s _ _ _)).trans (s _ _ _)
theorem liesP_grown {w w' : World} {B g : Nat} {l : List Tm} {s : Value} (h : LiesP w (Own B w) l s) (hg : w.grownBy w' (some g)) (hB : g < B) : LiesP w' (Own B w') l s :=
  h.keep (fun b hb hlt => hg.block b hlt (fun e => by have := Option.some.inj e; have := hb.1; omega)) (fun b hb hlt => hb.same (hg.block b hlt (fun e => by have := Option.some.inj e; have := hb.1; omega)))
end Go.Proofs.YtpekceadjcbphaaDoor

namespace Go.Proofs.YtpekceadjcbphaaDoor
open Go.RowKit

theorem symbol_cases {s : Int} (h1 : 1 ≤ s) (h2 : s ≤ 21) : s = 1 ∨ s = 2 ∨ s = 3 ∨ s = 4 ∨ s = 5 ∨ s = 6 ∨ s = 7 ∨ s = 8 ∨ s = 9 ∨ s = 10 ∨ s = 11 ∨ s = 12 ∨ s = 13 ∨ s = 14 ∨ s = 15 ∨ s = 16 ∨ s = 17 ∨ s = 18 ∨ s = 19 ∨ s = 20 ∨ s = 21 := by omega

set_option maxHeartbeats 2000000 in
theorem refkids_use (s : Int) (w : World) : Calls Tryd.prog 16 #[.int .i64 23, .int .i64 s] w fun e w' => e = .returned (.int .i64 (kidsN 23 s)) ∧ Below w.heap.size w w' := by
  by_cases h1 : 1 ≤ s
  · by_cases h2 : s ≤ 21
    · rcases symbol_cases h1 h2 with rfl | rfl | rfl | rfl | rfl | rfl | rfl | rfl | rfl | rfl | rfl | rfl | rfl | rfl | rfl | rfl | rfl | rfl | rfl | rfl | rfl
      all_goals
        go_enter Tryd.func16, Tryd.ntmps16
        go_wp2
        go_ret
        exact ⟨rfl, (Below.refl _ _).alloc (Nat.le_refl _) _⟩
    · have h3 : decide (s ≤ 21) = false := by simpa using h2
      have h4 : decide ((1 : Int) ≤ s) = true := by simpa using h1
      go_enter Tryd.func16, Tryd.ntmps16
      go_wp2
      go_ret
      exact ⟨ret_int (by unfold kidsN givenN; (repeat' split) <;> omega), (Below.refl _ _).alloc (Nat.le_refl _) _⟩
  · have h4 : decide ((1 : Int) ≤ s) = false := by simpa using h1
    go_enter Tryd.func16, Tryd.ntmps16
    go_wp2
    go_ret
    exact ⟨ret_int (by unfold kidsN givenN; (repeat' split) <;> omega), (Below.refl _ _).alloc (Nat.le_refl _) _⟩

set_option maxHeartbeats 2000000 in
theorem refkids_any (k s : Int) (w : World) : Calls Tryd.prog 16 #[.int .i64 k, .int .i64 s] w fun e w' => e = .returned (.int .i64 (kidsN k s)) ∧ Below w.heap.size w w' := by
  by_cases hk : k = 23
  · subst hk; exact refkids_use s w
  · have hk' : (k == 23) = false := by simpa using hk
    go_enter Tryd.func16, Tryd.ntmps16
    go_wp2
    all_goals go_ret
    all_goals exact ⟨ret_int (by simp only [beq_iff_eq, beq_eq_false_iff_ne, ne_eq] at *; unfold kidsN; (repeat' split) <;> omega), Below.refl _ _⟩

set_option maxHeartbeats 1000000 in
theorem refbinds_any (k i : Int) (w : World) : Calls Tryd.prog 51 #[.int .i64 k, .int .i64 i] w fun e w' => e = .returned (.int .i64 (bindsN k i)) ∧ w = w' := by
  go_enter Tryd.func51, Tryd.ntmps51
  go_wp2
  all_goals go_ret
  all_goals exact ⟨ret_int (by simp only [beq_iff_eq, beq_eq_false_iff_ne, ne_eq] at *; unfold bindsN; (repeat' split) <;> omega), rfl⟩

end Go.Proofs.YtpekceadjcbphaaDoor

namespace Go.Proofs.YtpekceadjcbphaaDoor
open Go.RowKit

def numbersN (k i j n : Int) : Bool :=
  if k = 2 then decide (0 ≤ i) && (decide (i ≤ 2147483647) && ((j == 0) && (n == 0)))
  else if k = 1 ∨ k = 10 ∨ k = 11 ∨ k = 12 then levelB i && ((j == 0) && (n == 0))
  else if k = 3 ∨ k = 4 ∨ k = 5 ∨ k = 6 ∨ k = 7 ∨ k = 8 ∨ k = 9 then levelB i && (levelB j && (n == 0))
  else if k = 23 then levelB i && levelB j else (i == 0) && ((j == 0) && (n == 0))

end Go.Proofs.YtpekceadjcbphaaDoor

namespace Go.Proofs.YtpekceadjcbphaaDoor
open Go.RowKit

mutual
def Tm.plainB : Tm → Bool
  | .mk k i j n l => (k == 1 || (k == 2 || (decide (13 ≤ k) && decide (k ≤ 23)))) && (((l.length : Int) == kidsN k n) && (numbersN k i j n && plains l))
def plains : List Tm → Bool
  | [] => true
  | t :: r => t.plainB && plains r
end

mutual
def Tm.markedB : Tm → Bool
  | .mk k i j n l => (decide (1 ≤ k) && decide (k ≤ 12)) && (((l.length : Int) == kidsN k n) && (numbersN k i j n && markeds (k == 12) 0 l))
def markeds : Bool → Nat → List Tm → Bool
  | _, _, [] => true
  | tr, p, t :: r => (if tr && p == 2 then t.plainB else t.markedB) && markeds tr (p + 1) r
end

/-- A node has as many kids, and the numbers, that its kind says. -/
def Tm.nodeB (t : Tm) : Bool := ((t.kids.length : Int) == kidsN t.k t.n) && numbersN t.k t.i t.j t.n

theorem Tm.plainB_eq (t : Tm) : t.plainB = ((t.k == 1 || (t.k == 2 || (decide (13 ≤ t.k) && decide (t.k ≤ 23)))) && (t.nodeB && plains t.kids)) := by
  cases t; simp only [Tm.plainB, Tm.nodeB, Tm.k, Tm.i, Tm.j, Tm.n, Tm.kids, Bool.and_assoc]; rfl
theorem Tm.markedB_eq (t : Tm) : t.markedB = ((decide (1 ≤ t.k) && decide (t.k ≤ 12)) && (t.nodeB && markeds (t.k == 12) 0 t.kids)) := by
  cases t; simp only [Tm.markedB, Tm.nodeB, Tm.k, Tm.i, Tm.j, Tm.n, Tm.kids, Bool.and_assoc]; rfl

theorem kidsN_nonneg {k n : Int} (h : 0 ≤ kidsN k n) : 1 ≤ k ∧ k ≤ 23 := by
  unfold kidsN at h; (repeat' split at h) <;> omega
theorem kidsN_two {k n : Int} (h1 : 1 ≤ k) (h2 : k ≤ 2) : kidsN k n = 0 := by
  unfold kidsN; rw [if_pos (by omega)]

theorem Tm.node_kind {t : Tm} (h : t.nodeB = true) : 1 ≤ t.k ∧ t.k ≤ 23 := by
  simp only [Tm.nodeB, Bool.and_eq_true, beq_iff_eq] at h
  exact kidsN_nonneg (n := t.n) (by omega)

/-- Its sorts: 1 for marked, 2 for plain, 3 for both. -/
def Tm.sortsN (t : Tm) : Int := (if t.markedB then 1 else 0) + (if t.plainB then 2 else 0)

theorem sorts_two {t : Tm} (h : t.nodeB = true) (h2 : t.k ≤ 2) : t.sortsN = 3 ∧ t.kids = [] := by
  have hk := (Tm.node_kind h).1
  have hl : t.kids = [] := by
    simp only [Tm.nodeB, Bool.and_eq_true, beq_iff_eq] at h
    rw [kidsN_two hk h2] at h
    exact List.eq_nil_of_length_eq_zero (by omega)
  have h3 : (t.k == 1 || (t.k == 2 || (decide (13 ≤ t.k) && decide (t.k ≤ 23)))) = true := by
    have : t.k = 1 ∨ t.k = 2 := by omega
    rcases this with e | e <;> simp [e]
  have h4 : (decide (1 ≤ t.k) && decide (t.k ≤ 12)) = true := by simp; omega
  refine ⟨?_, hl⟩
  simp [Tm.sortsN, Tm.plainB_eq, Tm.markedB_eq, h, h3, h4, hl, plains, markeds]
end Go.Proofs.YtpekceadjcbphaaDoor

namespace Go.Proofs.YtpekceadjcbphaaDoor
open Go.RowKit

mutual
def Tm.deep : Tm → Nat
  | .mk _ _ _ _ l => deeps l + 1
def deeps : List Tm → Nat
  | [] => 0
  | t :: r => max t.deep (deeps r)
end

end Go.Proofs.YtpekceadjcbphaaDoor

namespace Go.Proofs.YtpekceadjcbphaaDoor
open Go.RowKit

mutual
def Tm.freeN : Tm → Int
  | .mk k i _ _ l => if k = 2 then i + 1 else frees k 0 l
def frees : Int → Nat → List Tm → Int
  | _, _, [] => 0
  | k, p, t :: r => max (t.freeN - bindsN k p) (frees k (p + 1) r)
end
def Tm.rightB (t : Tm) : Bool := t.markedB || t.plainB

theorem Tm.right_node {t : Tm} (h : t.rightB = true) : t.nodeB = true := by
  simp only [Tm.rightB, Tm.markedB_eq, Tm.plainB_eq, Bool.or_eq_true, Bool.and_eq_true] at h
  rcases h with h | h
  · exact h.2.1
  · exact h.2.1
theorem binds_range (k i : Int) : 0 ≤ bindsN k i ∧ bindsN k i ≤ 2 := by unfold bindsN; (repeat' split) <;> omega
end Go.Proofs.YtpekceadjcbphaaDoor

namespace Go.Proofs.YtpekceadjcbphaaDoor

def srtB (so : Int) (t : Tm) : Bool := if so = 1 then t.markedB else if so = 2 then t.plainB else t.rightB
theorem numP_nn {lv : List Tok → Except Nat (Int × List Tok)} (hlv : ∀ ts n r, lv ts = .ok (n, r) → 0 ≤ n) {E : Nat} {i j : Int} (hi : 0 ≤ i) (hj : 0 ≤ j) {ts r : List Tok} {n : Int} (h : numP lv E i j ts = .ok (n, r)) : 0 ≤ n := by
  unfold numP at h
  split at h
  · cases h
  · split at h
    · cases h; omega
    · split at h
      · split at h
        · cases h; exact hi
        · split at h
          · cases h; exact hj
          · cases h
      · split at h
        · unfold numQ at h
          split at h
          · cases h
          · split at h
            · split at h
              · cases h
              · rename_i n3 r3 h3
                have l3 := hlv _ _ _ h3
                split at h
                · cases h
                · cases h; omega
            · split at h
              · split at h
                · cases h
                · rename_i n3 r3 h3
                  have l3 := hlv _ _ _ h3
                  split at h
                  · cases h
                  · split at h
                    · cases h
                    · cases h; omega
              · cases h
        · cases h
theorem levelP_nn {E : Nat} {i j : Int} (hi : 0 ≤ i) (hj : 0 ≤ j) : ∀ {f : Nat} {ts r : List Tok} {n : Int}, levelP E i j f ts = .ok (n, r) → 0 ≤ n
  | 0, ts, r, n, h => by cases h
  | f + 1, ts, r, n, h => by
    unfold levelP at h
    split at h
    · cases h
    · rename_i n2 r2 h2
      have := numP_nn (fun ts n r h => levelP_nn hi hj h) hi hj h2
      split at h
      · cases h
      · cases h; exact this
def TpR (B : Nat) (tp : Int → Names → List Tok → Except Nat (Tm × List Tok)) : Prop := ∀ s N ts t r, (s = 0 ∨ s = 1 ∨ s = 2) → N.length + ts.length ≤ B → tp s N ts = .ok (t, r) → srtB s t = true ∧ t.freeN ≤ N.length ∧ r.length < ts.length
theorem kidsP_right {B : Nat} {tp : Int → Names → List Tok → Except Nat (Tm × List Tok)} (htp : TpR B tp) {k own : Int} {x : List UInt8} (ho : own = 1 ∨ own = 2) (hk : k ≠ 22) :
    ∀ {c p : Nat} {N : Names} {ts r : List Tok} {l : List Tm}, N.length + ts.length ≤ B → ((∀ q, bindsN k q = 0) ∨ N.length + 1 + ts.length ≤ B) → kidsP tp k own x p c N ts = .ok (l, r) →
      (own = 1 → markeds (k == 12) p l = true) ∧ (own = 2 → k ≠ 12 → plains l = true) ∧ frees k p l ≤ N.length
  | 0, p, N, ts, r, l, _, _, h => by unfold kidsP at h; cases h; exact ⟨fun _ => rfl, fun _ _ => rfl, by simp [frees]⟩
  | c + 1, p, N, ts, r, l, h1, h2, h => by
    unfold kidsP at h
    split at h
    · cases h
    · rename_i t r1 ht
      have hb : bindsN k p = 0 ∨ bindsN k p = 1 := by unfold bindsN; (repeat' split) <;> simp_all
      have hs : (if k = 12 ∧ p = 2 then (2 : Int) else own) = 0 ∨ (if k = 12 ∧ p = 2 then (2 : Int) else own) = 1 ∨ (if k = 12 ∧ p = 2 then (2 : Int) else own) = 2 := by split <;> omega
      have hN : (if bindsN k p = 0 then N else x :: N).length + ts.length ≤ B := by
        split
        · exact h1
        · rcases h2 with h2 | h2
          · exact absurd (h2 p) (by assumption)
          · simp; omega
      obtain ⟨k1, k2, k3⟩ := htp _ _ _ _ _ hs hN ht
      split at h
      · cases h
      · rename_i l2 r2 hl
        cases h
        obtain ⟨m1, m2, m3⟩ := kidsP_right htp ho hk (c := c) (p := p + 1) (by omega) (by rcases h2 with h2 | h2; exact Or.inl h2; exact Or.inr (by omega)) hl
        refine ⟨fun e => ?_, fun e e2 => ?_, ?_⟩
        · subst e
          simp only [markeds, Bool.and_eq_true]
          refine ⟨?_, m1 rfl⟩
          unfold srtB at k1
          by_cases h12 : k = 12 ∧ p = 2
          · obtain ⟨rfl, rfl⟩ := h12
            simpa using k1
          · rw [if_neg h12] at k1
            rw [if_neg (by simpa using h12)]
            simpa using k1
        · subst e
          simp only [plains, Bool.and_eq_true]
          refine ⟨?_, m2 rfl e2⟩
          rw [if_neg (fun h => e2 h.1)] at k1
          simpa [srtB] using k1
        · simp only [frees]
          have : t.freeN - bindsN k p ≤ N.length := by
            rcases hb with hb | hb
            · rw [if_pos hb] at k2; omega
            · rw [if_neg (by omega)] at k2; simp at k2; omega
          omega
theorem srt2 {t : Tm} (h : srtB 2 t = true) : t.plainB = true := by simpa [srtB] using h
theorem kidsJ_right {B : Nat} {tp : Int → Names → List Tok → Except Nat (Tm × List Tok)} (htp : TpR B tp) {E : Nat} {N : Names} {ts r : List Tok} {l : List Tm} (hB : N.length + ts.length ≤ B) (h : kidsJ tp E N ts = .ok (l, r)) : plains l = true ∧ frees 22 0 l ≤ N.length := by
  unfold kidsJ at h
  split at h; · cases h
  rename_i h1
  split at h; · cases h
  rename_i h2
  split at h; · cases h
  rename_i h3
  split at h; · cases h
  rename_i h4
  split at h; · cases h
  rename_i h5
  split at h; · cases h
  rename_i h6
  split at h; · cases h
  rename_i h7
  split at h; · cases h
  rename_i h8
  cases h
  have h2' : (2 : Int) = 0 ∨ (2 : Int) = 1 ∨ (2 : Int) = 2 := by omega
  obtain ⟨a1, b1, c1⟩ := htp _ _ _ _ _ h2' hB h1
  obtain ⟨a2, b2, c2⟩ := htp _ _ _ _ _ h2' (by omega) h2
  have c3 := takeT_len h3
  have c4 := takeT_len h4
  obtain ⟨a5, b5, c5⟩ := htp _ _ _ _ _ h2' (by simp; omega) h5
  obtain ⟨a6, b6, c6⟩ := htp _ _ _ _ _ h2' (by omega) h6
  obtain ⟨a7, b7, c7⟩ := htp _ _ _ _ _ h2' (by omega) h7
  obtain ⟨a8, b8, c8⟩ := htp _ _ _ _ _ h2' (by omega) h8
  simp at b5
  refine ⟨by simp [plains, srt2 a1, srt2 a2, srt2 a5, srt2 a6, srt2 a7, srt2 a8], ?_⟩
  simp only [frees, bindsN]
  simp
  omega
theorem given_nn {n : Int} (h1 : 1 ≤ n) (h2 : n ≤ 21) : 0 ≤ givenN n := by unfold givenN; (repeat' split) <;> omega
theorem bodyP_right {B : Nat} {lv : List Tok → Except Nat (Int × List Tok)} (hlv : ∀ ts n r, lv ts = .ok (n, r) → (0 ≤ n ∧ n ≤ 1000) ∧ r.length < ts.length) {tp : Int → Names → List Tok → Except Nat (Tm × List Tok)} (htp : TpR B tp) (hle : ∀ s N ts t r, tp s N ts = .ok (t, r) → r.length ≤ ts.length) {E : Nat} {k : Int} (hk : k = 1 ∨ (3 ≤ k ∧ k ≤ 23)) {N : Names} {ts r : List Tok} {t : Tm} (hB : N.length + ts.length ≤ B) (h : bodyP lv tp E k N ts = .ok (t, r)) :
    ((sortN k = 0 ∨ sortN k = 1) → t.markedB = true) ∧ ((sortN k = 0 ∨ sortN k = 2) → t.plainB = true) ∧ t.freeN ≤ N.length ∧ t.k ≠ 2 := by
  unfold bodyP at h
  split at h; · cases h
  rename_i n r1 h1
  split at h; · cases h
  rename_i i r2 h2
  split at h; · cases h
  rename_i j r3 h3
  split at h; · cases h
  rename_i l r4 h4
  split at h; · cases h
  cases h
  have f1 : r1.length ≤ ts.length ∧ (k = 23 → 1 ≤ n ∧ n ≤ 21) ∧ (k ≠ 23 → n = 0) := by
    unfold symP at h1
    split at h1
    · split at h1
      · cases h1
      · rename_i s r0 h0
        have := takeT_len h0
        split at h1
        · cases h1
        · cases h1
          refine ⟨by omega, fun _ => ?_, fun e => absurd (by assumption) e⟩
          have : symN s.s ≤ 21 ∧ 0 ≤ symN s.s := by
            unfold symN
            split
            · rename_i i hi
              have := idxL_lt hi
              simp [symsW] at this
              omega
            · omega
          omega
    · cases h1; exact ⟨Nat.le_refl _, fun e => absurd e (by assumption), fun _ => rfl⟩
  have f2 : r2.length ≤ r1.length ∧ (0 ≤ i ∧ i ≤ 1000) ∧ (levelsN k = 0 → i = 0) := by
    unfold lvaP at h2
    split at h2
    · have := hlv _ _ _ h2; exact ⟨by omega, this.1, fun e => by omega⟩
    · cases h2; exact ⟨Nat.le_refl _, by omega, fun _ => rfl⟩
  have f3 : r3.length ≤ r2.length ∧ (0 ≤ j ∧ j ≤ 1000) ∧ (levelsN k ≤ 1 → j = 0) := by
    unfold lvbP at h3
    split at h3
    · have := hlv _ _ _ h3; exact ⟨by omega, this.1, fun e => by omega⟩
    · cases h3; exact ⟨Nat.le_refl _, by omega, fun _ => rfl⟩
  have hnum : numbersN k i j n = true := by
    obtain ⟨-, s1, s2⟩ := f1
    obtain ⟨-, i1, i2⟩ := f2
    obtain ⟨-, j1, j2⟩ := f3
    unfold numbersN levelB
    unfold levelsN at i2 j2
    (repeat' split) <;> (try simp only [Bool.and_eq_true, decide_eq_true_eq, beq_iff_eq]) <;> (repeat' split at i2) <;> (repeat' split at j2) <;> (first | omega | (refine ⟨?_, ?_, ?_⟩ <;> omega) | skip)
  have hlen : ((l.length : Int) == kidsN k n) = true := by
    unfold kdsP at h4
    split at h4
    · rename_i hk
      have := (kidsJ_len hle h4).2
      simp [this, hk, kidsN]
    · have := (kidsK_len hle h4).2
      have : 0 ≤ kidsN k n := by
        unfold kidsN
        (repeat' split) <;> first | omega | (exact given_nn (f1.2.1 (by assumption)).1 (f1.2.1 (by assumption)).2)
      simp; omega
  have hB3 : N.length + r3.length ≤ B := by omega
  have hK : ((sortN k = 0 ∨ sortN k = 1) → markeds (k == 12) 0 l = true) ∧ ((sortN k = 0 ∨ sortN k = 2) → plains l = true) ∧ frees k 0 l ≤ N.length := by
    unfold kdsP at h4
    split at h4
    · rename_i h22
      subst h22
      obtain ⟨m1, m2⟩ := kidsJ_right htp hB3 h4
      exact ⟨fun e => by simp [sortN] at e, fun _ => m1, m2⟩
    · rename_i h22
      unfold kidsK at h4
      split at h4
      · cases h4
        exact ⟨fun _ => rfl, fun _ => rfl, by simp [frees]⟩
      · rename_i hpos
        have hso : sortN k = 1 ∨ sortN k = 2 := by
          unfold sortN
          (repeat' split)
          · exfalso
            have : k = 1 := by omega
            subst this
            simp [kidsN] at hpos
          · exact Or.inl rfl
          · exact Or.inr rfl
        have h12 : sortN k = 2 → k ≠ 12 := fun e e2 => by subst e2; simp [sortN] at e
        have fin : ∀ {x : List UInt8} {q r4 : List Tok}, (N.length + q.length ≤ B) → ((∀ p, bindsN k p = 0) ∨ N.length + 1 + q.length ≤ B) → kidsP tp k (sortN k) x 0 (kidsN k n).toNat N q = .ok (l, r4) → ((sortN k = 0 ∨ sortN k = 1) → markeds (k == 12) 0 l = true) ∧ ((sortN k = 0 ∨ sortN k = 2) → plains l = true) ∧ frees k 0 l ≤ N.length := fun b1 b2 hh => by
          obtain ⟨m1, m2, m3⟩ := kidsP_right htp hso h22 b1 b2 hh
          exact ⟨fun e => m1 (by omega), fun e => m2 (by omega) (h12 (by omega)), m3⟩
        split at h4
        · split at h4
          · cases h4
          · rename_i x q hx
            have := takeT_len hx
            exact fin (by omega) (Or.inr (by omega)) h4
        · rename_i hb
          refine fin hB3 (Or.inl fun p => ?_) h4
          have hb1 : bindsN k 1 = 0 := by unfold bindsN at hb ⊢; (repeat' split) <;> simp_all
          unfold bindsN at hb1 ⊢
          (repeat' split) <;> simp_all
  refine ⟨fun e => ?_, fun e => ?_, ?_, ?_⟩
  · simp only [Tm.markedB, hlen, hnum, hK.1 e, Bool.and_true, Bool.and_eq_true, decide_eq_true_eq]
    unfold sortN at e
    (repeat' split at e) <;> omega
  · simp only [Tm.plainB, hlen, hnum, hK.2.1 e, Bool.and_true, Bool.or_eq_true, Bool.and_eq_true, decide_eq_true_eq, beq_iff_eq]
    unfold sortN at e
    (repeat' split at e) <;> omega
  · simp only [Tm.freeN]
    rw [if_neg (by omega)]
    exact hK.2.2
  · show k ≠ 2
    omega
theorem headN_form (x : List UInt8) : headN x = 0 ∨ headN x = 1 ∨ (3 ≤ headN x ∧ headN x ≤ 23) := by
  unfold headN
  split
  · omega
  · split
    · rename_i i hi
      have := idxL_lt hi
      simp [headsW] at this
      omega
    · omega
/-- What is read is right, of the sort that was asked for, and free at most in the names. -/
theorem termP_right {B E : Nat} {i j : Int} (hi : 0 ≤ i ∧ i ≤ 1000) (hj : 0 ≤ j ∧ j ≤ 1000) (hB : B ≤ 2147483647) : ∀ f, TpR B (termP E i j f)
  | 0 => fun s N ts t r _ _ h => by cases h
  | f + 1 => fun s N ts t r hs hN h => by
    have hlen := termP_len h
    cases ts with
    | nil => cases h
    | cons t0 r0 =>
      unfold termP at h
      simp only [List.length_cons] at hN
      split at h
      · unfold listP at h
        split at h; · cases h
        rename_i w r1 hw
        have lw := takeT_len hw
        split at h
        · cases h
        · rename_i hbad
          have hk := headN_form w.s
          obtain ⟨m1, m2, m3, m4⟩ := bodyP_right (fun ts n r h => ⟨⟨levelP_nn hi.1 hj.1 h, levelP_most h⟩, levelP_len h⟩) (termP_right (E := E) hi hj hB f) (fun s N ts t r h => Nat.le_of_lt (termP_len h)) (k := headN w.s) (by rcases hk with hk | hk; exact absurd (Or.inl hk) hbad; exact hk) (N := N) (ts := r1) (by omega) h
          refine ⟨?_, m3, hlen⟩
          have hso : sortN (headN w.s) = 0 ∨ sortN (headN w.s) = 1 ∨ sortN (headN w.s) = 2 := by unfold sortN; (repeat' split) <;> omega
          unfold srtB Tm.rightB
          rcases hs with rfl | rfl | rfl
          · simp
            rcases hso with e | e | e
            · exact Or.inl (m1 (Or.inl e))
            · exact Or.inl (m1 (Or.inr e))
            · exact Or.inr (m2 (Or.inr e))
          · simp
            exact m1 (by
              rcases hso with e | e | e
              · exact Or.inl e
              · exact Or.inr e
              · exact absurd (Or.inr ⟨by omega, by omega, by omega⟩) hbad)
          · simp
            exact m2 (by
              rcases hso with e | e | e
              · exact Or.inl e
              · exact absurd (Or.inr ⟨by omega, by omega, by omega⟩) hbad
              · exact Or.inr e)
      · split at h
        · split at h
          · cases h
          · rename_i q hq
            cases h
            have hql := idxL_lt hq
            refine ⟨?_, ?_, hlen⟩
            · have hn : numbersN 2 (q : Int) 0 0 = true := by unfold numbersN; simp; omega
              unfold srtB Tm.rightB
              rcases hs with rfl | rfl | rfl <;> simp [Tm.markedB, Tm.plainB, hn, kidsN, markeds, plains]
            · simp only [Tm.freeN]; rw [if_pos trivial]; omega
        · cases h
end Go.Proofs.YtpekceadjcbphaaDoor

namespace Go.Proofs.YtpekceadjcbphaaDoor.Sg

abbrev Rd (α : Type) := List Tok → Except Nat (α × List Tok)
/-- What the one reads the other reads, too; P: what holds of the tokens. -/
def RelP {α : Type} (P : Tok → Prop) (R : α → α → Prop) (p p' : Rd α) : Prop := ∀ ts v r, (∀ t ∈ ts, P t) → p ts = .ok (v, r) → (∃ v', p' ts = .ok (v', r) ∧ R v v') ∧ ∀ t ∈ r, P t
theorem take_relP {P : Tok → Prop} {E k : Nat} {ts r : List Tok} {t : Tok} (hP : ∀ x ∈ ts, P x) (h : takeT E k ts = .ok (t, r)) : P t ∧ ∀ x ∈ r, P x := by
  obtain ⟨rfl, -⟩ := takeT_eq h
  exact ⟨hP t (List.mem_cons_self ..), fun x hx => hP x (List.mem_cons_of_mem _ hx)⟩
/-- The levels' relation goes with suc and max. -/
structure LvR (P : Tok → Prop) (R : Int → Int → Prop) (i j i' j' : Int) : Prop where
  num : ∀ n : Nat, R n n
  suc : ∀ a b, R a b → R (a + 1) (b + 1)
  max : ∀ a b c d, R a b → R c d → R (Max.max a c) (Max.max b d)
  i : R i i'
  j : (∀ t, P t → t.k = 3 → t.s = [106] → R j j')
  top : ∀ a b, R a b → ¬ 1000 < a → ¬ 1000 < b
theorem LvR.zero {P : Tok → Prop} {R : Int → Int → Prop} {i j i' j' : Int} (h : LvR P R i j i' j') : R 0 0 := h.num 0
theorem numQ_rel {P : Tok → Prop} {R : Int → Int → Prop} {E : Nat} {i j i' j' : Int} (hR : LvR P R i j i' j') {lv lv' : Rd Int} (hlv : RelP P R lv lv') : RelP P R (numQ lv E) (numQ lv' E) := by
  intro ts v r hP h
  unfold numQ at h
  split at h; · cases h
  rename_i w r2 h2
  have p2 := (take_relP hP h2).2
  unfold numQ
  rw [h2]
  dsimp only
  split at h
  · rename_i hs
    rw [if_pos hs]
    split at h; · cases h
    rename_i n r3 h3
    obtain ⟨⟨n', e3, q3⟩, p3⟩ := hlv _ _ _ p2 h3
    rw [e3]
    dsimp only
    split at h; · cases h
    rename_i h4
    have p4 := (take_relP p3 h4).2
    (try rw [h4])
    cases h
    exact ⟨⟨_, rfl, hR.suc _ _ q3⟩, p4⟩
  · rename_i hs
    rw [if_neg hs]
    split at h
    · rename_i hs2
      rw [if_pos hs2]
      split at h; · cases h
      rename_i n r3 h3
      obtain ⟨⟨n', e3, q3⟩, p3⟩ := hlv _ _ _ p2 h3
      rw [e3]
      dsimp only
      split at h; · cases h
      rename_i n2 r4 h4
      obtain ⟨⟨m', e4, q4⟩, p4⟩ := hlv _ _ _ p3 h4
      rw [e4]
      dsimp only
      split at h; · cases h
      rename_i h5
      have p5 := (take_relP p4 h5).2
      (try rw [h5])
      cases h
      exact ⟨⟨_, rfl, hR.max _ _ _ _ q3 q4⟩, p5⟩
    · cases h
theorem numP_rel {P : Tok → Prop} {R : Int → Int → Prop} {E : Nat} {i j i' j' : Int} (hR : LvR P R i j i' j') {lv lv' : Rd Int} (hlv : RelP P R lv lv') : RelP P R (numP lv E i j) (numP lv' E i' j') := by
  intro ts v r hP h
  cases ts with
  | nil => cases h
  | cons t r0 =>
    have hPr : ∀ x ∈ r0, P x := fun x hx => hP x (List.mem_cons_of_mem _ hx)
    unfold numP at h ⊢
    dsimp only at h ⊢
    split at h
    · rename_i c1
      rw [if_pos c1]
      cases h
      exact ⟨⟨_, rfl, hR.num _⟩, hPr⟩
    · rename_i c1
      rw [if_neg c1]
      split at h
      · rename_i c2
        rw [if_pos c2]
        split at h
        · rename_i c3
          rw [if_pos c3]
          cases h
          exact ⟨⟨_, rfl, hR.i⟩, hPr⟩
        · rename_i c3
          rw [if_neg c3]
          split at h
          · rename_i c4
            rw [if_pos c4]
            cases h
            exact ⟨⟨_, rfl, hR.j t (hP t (List.mem_cons_self ..)) c2 c4⟩, hPr⟩
          · cases h
      · rename_i c2
        rw [if_neg c2]
        split at h
        · rename_i c3
          rw [if_pos c3]
          exact numQ_rel hR hlv _ _ _ hPr h
        · cases h
theorem levelP_rel {P : Tok → Prop} {R : Int → Int → Prop} {E : Nat} {i j i' j' : Int} (hR : LvR P R i j i' j') : ∀ f : Nat, RelP P R (levelP E i j f) (levelP E i' j' f)
  | 0 => fun ts v r hP h => by cases h
  | f + 1 => fun ts v r hP h => by
    unfold levelP at h
    split at h; · cases h
    rename_i n q hn
    split at h; · cases h
    rename_i hle
    obtain ⟨⟨n', e1, q1⟩, p1⟩ := numP_rel hR (levelP_rel hR f) _ _ _ hP hn
    unfold levelP
    rw [e1]
    dsimp only
    rw [if_neg (hR.top _ _ q1 hle)]
    cases h
    exact ⟨⟨_, rfl, q1⟩, p1⟩
/-- Two terms alike but for their levels, and these related. -/
inductive TR (R : Int → Int → Prop) : Tm → Tm → Prop
  | var (q : Int) : TR R (.mk 2 q 0 0 []) (.mk 2 q 0 0 [])
  | node (k i j n i' j' : Int) (l l' : List Tm) : k ≠ 2 → R i i' → R j j' → l.length = l'.length → (∀ q (h : q < l.length) (h' : q < l'.length), TR R (l[q]'h) (l'[q]'h')) → TR R (.mk k i j n l) (.mk k i' j' n l')
def TRL (R : Int → Int → Prop) (l l' : List Tm) : Prop := l.length = l'.length ∧ ∀ q (h : q < l.length) (h' : q < l'.length), TR R (l[q]'h) (l'[q]'h')
theorem TRL.nil (R : Int → Int → Prop) : TRL R [] [] := ⟨rfl, fun q h => absurd h (by simp)⟩
theorem TRL.cons {R : Int → Int → Prop} {x x' : Tm} {l l' : List Tm} (hx : TR R x x') (h : TRL R l l') : TRL R (x :: l) (x' :: l') := by
  refine ⟨by simp [h.1], fun q h1 h2 => ?_⟩
  cases q with
  | zero => exact hx
  | succ q => exact h.2 q (by simpa using h1) (by simpa using h2)
abbrev TP := Int → Names → List Tok → Except Nat (Tm × List Tok)
def RelT (P : Tok → Prop) (R : Int → Int → Prop) (tp tp' : TP) : Prop := ∀ s N, RelP P (TR R) (tp s N) (tp' s N)
theorem kidsP_rel {P : Tok → Prop} {R : Int → Int → Prop} {tp tp' : TP} (htp : RelT P R tp tp') {k own : Int} {y : List UInt8} : ∀ {c p : Nat} {N : Names}, RelP P (TRL R) (kidsP tp k own y p c N) (kidsP tp' k own y p c N)
  | 0, p, N => fun ts v r hP h => by unfold kidsP at h; cases h; exact ⟨⟨[], rfl, TRL.nil R⟩, hP⟩
  | c + 1, p, N => fun ts v r hP h => by
    unfold kidsP at h
    split at h; · cases h
    rename_i t r1 h1
    obtain ⟨⟨t', e1, q1⟩, p1⟩ := htp _ _ _ _ _ hP h1
    split at h; · cases h
    rename_i l r2 h2
    obtain ⟨⟨l', e2, q2⟩, p2⟩ := kidsP_rel htp (c := c) _ _ _ p1 h2
    unfold kidsP
    rw [e1]
    dsimp only
    rw [e2]
    cases h
    exact ⟨⟨_, rfl, TRL.cons q1 q2⟩, p2⟩
theorem kidsK_rel {P : Tok → Prop} {R : Int → Int → Prop} {E : Nat} {tp tp' : TP} (htp : RelT P R tp tp') {k n own : Int} {N : Names} : RelP P (TRL R) (kidsK tp E k n own N) (kidsK tp' E k n own N) := by
  intro ts v r hP h
  unfold kidsK at h ⊢
  split at h
  · rename_i c1
    rw [if_pos c1]
    cases h
    exact ⟨⟨_, rfl, TRL.nil R⟩, hP⟩
  · rename_i c1
    rw [if_neg c1]
    split at h
    · rename_i c2
      rw [if_pos c2]
      split at h; · cases h
      rename_i w q hw
      (try rw [hw])
      exact kidsP_rel htp _ _ _ (take_relP hP hw).2 h
    · rename_i c2
      rw [if_neg c2]
      exact kidsP_rel htp _ _ _ hP h
theorem kidsJ_rel {P : Tok → Prop} {R : Int → Int → Prop} {E : Nat} {tp tp' : TP} (htp : RelT P R tp tp') {N : Names} : RelP P (TRL R) (kidsJ tp E N) (kidsJ tp' E N) := by
  intro ts v r hP h
  unfold kidsJ at h
  split at h; · cases h
  rename_i h1
  obtain ⟨⟨t1, e1, q1⟩, p1⟩ := htp _ _ _ _ _ hP h1
  split at h; · cases h
  rename_i h2
  obtain ⟨⟨t2, e2, q2⟩, p2⟩ := htp _ _ _ _ _ p1 h2
  split at h; · cases h
  rename_i h3
  have p3 := (take_relP p2 h3).2
  split at h; · cases h
  rename_i h4
  have p4 := (take_relP p3 h4).2
  split at h; · cases h
  rename_i h5
  obtain ⟨⟨t5, e5, q5⟩, p5⟩ := htp _ _ _ _ _ p4 h5
  split at h; · cases h
  rename_i h6
  obtain ⟨⟨t6, e6, q6⟩, p6⟩ := htp _ _ _ _ _ p5 h6
  split at h; · cases h
  rename_i h7
  obtain ⟨⟨t7, e7, q7⟩, p7⟩ := htp _ _ _ _ _ p6 h7
  split at h; · cases h
  rename_i h8
  obtain ⟨⟨t8, e8, q8⟩, p8⟩ := htp _ _ _ _ _ p7 h8
  cases h
  unfold kidsJ
  rw [e1]; dsimp only; rw [e2]; dsimp only; (try rw [h3]); (try dsimp only); (try rw [h4]); (try dsimp only); rw [e5]; dsimp only; rw [e6]; dsimp only; rw [e7]; dsimp only; rw [e8]
  exact ⟨⟨_, rfl, TRL.cons q1 (TRL.cons q2 (TRL.cons q5 (TRL.cons q6 (TRL.cons q7 (TRL.cons q8 (TRL.nil R))))))⟩, p8⟩
theorem symP_rel {P : Tok → Prop} {E : Nat} {k : Int} : RelP P Eq (symP E k) (symP E k) := by
  intro ts v r hP h
  refine ⟨⟨v, h, rfl⟩, ?_⟩
  unfold symP at h
  split at h
  · split at h; · cases h
    rename_i hw
    split at h; · cases h
    cases h
    exact (take_relP hP hw).2
  · cases h; exact hP
theorem lv_rel {P : Tok → Prop} {R : Int → Int → Prop} {i j i' j' : Int} (hR : LvR P R i j i' j') {lv lv' : Rd Int} (hlv : RelP P R lv lv') (c : Prop) [Decidable c] : RelP P R (fun ts => if c then lv ts else .ok (0, ts)) (fun ts => if c then lv' ts else .ok (0, ts)) := by
  intro ts v r hP h
  dsimp only at h ⊢
  by_cases hc : c
  · rw [if_pos hc] at h ⊢
    exact hlv _ _ _ hP h
  · rw [if_neg hc] at h ⊢
    cases h
    exact ⟨⟨0, rfl, hR.zero⟩, hP⟩
theorem kdsP_rel {P : Tok → Prop} {R : Int → Int → Prop} {E : Nat} {tp tp' : TP} (htp : RelT P R tp tp') {k n : Int} {N : Names} : RelP P (TRL R) (kdsP tp E k n N) (kdsP tp' E k n N) := by
  intro ts v r hP h
  unfold kdsP at h ⊢
  split at h
  · rename_i c
    rw [if_pos c]
    exact kidsJ_rel htp _ _ _ hP h
  · rename_i c
    rw [if_neg c]
    exact kidsK_rel htp _ _ _ hP h
theorem bodyP_rel {P : Tok → Prop} {R : Int → Int → Prop} {E : Nat} {i j i' j' : Int} (hR : LvR P R i j i' j') {lv lv' : Rd Int} (hlv : RelP P R lv lv') {tp tp' : TP} (htp : RelT P R tp tp') {k : Int} (hk : k ≠ 2) {N : Names} : RelP P (TR R) (bodyP lv tp E k N) (bodyP lv' tp' E k N) := by
  intro ts v r hP h
  unfold bodyP at h
  split at h; · cases h
  rename_i h1
  have p1 := (symP_rel _ _ _ hP h1).2
  split at h; · cases h
  rename_i h2
  obtain ⟨⟨t2, e2, q2⟩, p2⟩ := lv_rel hR hlv (0 < levelsN k) _ _ _ p1 h2
  split at h; · cases h
  rename_i h3
  obtain ⟨⟨t3, e3, q3⟩, p3⟩ := lv_rel hR hlv (1 < levelsN k) _ _ _ p2 h3
  split at h; · cases h
  rename_i h4
  obtain ⟨⟨t4, e4, q4⟩, p4⟩ := kdsP_rel htp _ _ _ p3 h4
  split at h; · cases h
  rename_i h5
  have p5 := (take_relP p4 h5).2
  cases h
  unfold bodyP
  (try rw [h1]); (try dsimp only)
  rw [show lvaP lv' k _ = _ from e2]; dsimp only
  rw [show lvbP lv' k _ = _ from e3]; dsimp only
  rw [e4]; dsimp only
  (try rw [h5])
  exact ⟨⟨_, rfl, TR.node _ _ _ _ _ _ _ _ hk q2 q3 q4.1 q4.2⟩, p5⟩
theorem termP_rel {P : Tok → Prop} {R : Int → Int → Prop} {E : Nat} {i j i' j' : Int} (hR : LvR P R i j i' j') : ∀ f : Nat, RelT P R (termP E i j f) (termP E i' j' f)
  | 0 => fun s N ts v r hP h => by cases h
  | f + 1 => fun s N ts v r hP h => by
    cases ts with
    | nil => cases h
    | cons t r0 =>
      have hPr : ∀ x ∈ r0, P x := fun x hx => hP x (List.mem_cons_of_mem _ hx)
      unfold termP at h ⊢
      (try dsimp only at h ⊢)
      split at h
      · rename_i c1
        rw [if_pos c1]
        unfold listP at h ⊢
        split at h; · cases h
        rename_i w r1 hw
        (try rw [hw])
        (try dsimp only)
        split at h; · cases h
        rename_i c2
        rw [if_neg c2]
        have hk : headN w.s ≠ 2 := by
          rcases headN_form w.s with e | e | e <;> omega
        exact bodyP_rel hR (levelP_rel hR f) (termP_rel hR f) hk _ _ _ (take_relP hPr hw).2 h
      · rename_i c1
        rw [if_neg c1]
        split at h
        · rename_i c2
          rw [if_pos c2]
          split at h; · cases h
          rename_i q hq
          (try rw [hq])
          cases h
          exact ⟨⟨_, rfl, TR.var _⟩, hPr⟩
        · cases h
end Go.Proofs.YtpekceadjcbphaaDoor.Sg

namespace Go.Proofs.YtpekceadjcbphaaDoor
open Go.RowKit Go.Maps Go.ChangeShapes

abbrev zeroT : Obj := .cells #[.int .i64 0, .int .i64 0, .int .i64 0, .int .i64 0, .slice none 0 0] 26
theorem cells5_of {w : World} {b : Nat} {v0 v1 v2 v3 v4 : Value} (h : w.heap[b]? = some (Obj.cells #[v0, v1, v2, v3, v4] 26 (0, 0))) : (w.cell? ⟨b, 0, none⟩ = some v0 ∧ w.cell? ⟨b, 1, none⟩ = some v1 ∧ w.cell? ⟨b, 2, none⟩ = some v2 ∧ w.cell? ⟨b, 3, none⟩ = some v3 ∧ w.cell? ⟨b, 4, none⟩ = some v4) ∧
    (w.frozen? ⟨b, 0, none⟩ = false ∧ w.frozen? ⟨b, 1, none⟩ = false ∧ w.frozen? ⟨b, 2, none⟩ = false ∧ w.frozen? ⟨b, 3, none⟩ = false ∧ w.frozen? ⟨b, 4, none⟩ = false) ∧ b < w.heap.size :=
  ⟨⟨by rw [Lib.cell_of_heap h]; rfl, by rw [Lib.cell_of_heap h]; rfl, by rw [Lib.cell_of_heap h]; rfl, by rw [Lib.cell_of_heap h]; rfl, by rw [Lib.cell_of_heap h]; rfl⟩, ⟨Lib.frozen_of_heap h 0, Lib.frozen_of_heap h 1, Lib.frozen_of_heap h 2, Lib.frozen_of_heap h 3, Lib.frozen_of_heap h 4⟩, hlt_of h⟩
def ListC (c : RC) (f : Nat) (lv : List Tok → Except Nat (Int × List Tok)) (tp : Int → Names → List Tok → Except Nat (Tm × List Tok)) : Prop := ∀ (so : Int) (N : Names) (t : Tok) (r : List Tok) (sl : Nat) (w : World), r.length < f → t.k = 1 → RSt c sl N (t :: r) w → TabsR c.B w → Calls Tryd.prog 53 #[.pointer (some ⟨c.R, 0, none⟩), .int .i64 so] w (TermG c sl N w (listP lv tp c.E so N r))
theorem ListC.use {c : RC} {f : Nat} {lv : List Tok → Except Nat (Int × List Tok)} {tp : Int → Names → List Tok → Except Nat (Tm × List Tok)} (h : ListC c f lv tp) (so : Int) (N : Names) (t : Tok) (r : List Tok) (sl : Nat) (w : World) (h1 : r.length < f) (h2 : t.k = 1) (h3 : RSt c sl N (t :: r) w) (h4 : TabsR c.B w) : Calls Tryd.prog 53 #[.pointer (some ⟨c.R, 0, none⟩), .int .i64 so] w (TermG c sl N w (listP lv tp c.E so N r)) := h so N t r sl w h1 h2 h3 h4
/-- The end of a reading whose result is stored into a block of its own. -/
theorem term_end {c : RC} {sl : Nat} {N : Names} {r : List Tok} {w w1 w2 : World} {t : Tm} {s : Value} (hlo : c.B ≤ w.heap.size) (hf : Fr c w w1) (hg : w1.grownBy w2 (some w.heap.size)) {cs : Array Value} {fz : Nat × Nat} (hb : w1.heap[w.heap.size]? = some (Obj.cells cs 26 fz)) (hs : RSt c sl N r w1) (hl : LiesP w1 (Own (w.heap.size + 1) w1) t.kids s) :
    LiesP w2 (Own w.heap.size w2) t.kids s ∧ RSt c sl N r w2 ∧ Fr c w w2 :=
  ⟨(liesP_grown hl hg (by omega)).from (by omega), hs.other hg hb (by omega), hf.other hg (Nat.le_refl _) hlo⟩
set_option maxHeartbeats 4000000 in
set_option maxRecDepth 20000 in
theorem rterm_step (c : RC) (f : Nat) (hlist : ListC c f (levelP c.E c.i c.j f) (termP c.E c.i c.j f)) : TermC c (f + 1) (termP c.E c.i c.j (f + 1)) := by
  intro so N ts sl w hf h hT
  obtain ⟨du, hu1, hu2⟩ := under_term
  have hlo := h.lo
  have hB1 := (Below.refl w.heap.size w).alloc (Nat.le_refl _) (zeroT)
  have HF0 := Lib.hid (Fr.later hB1 hlo)
  have HS0 := Lib.hid (h.later hB1)
  have HT0 := Lib.hid (hT.keep HF0.out.below)
  have HG := Lib.hid (show (w.alloc (zeroT)).heap[w.heap.size]? = some (zeroT) from alloc_new _ _)
  have HL := Lib.hid hlist
  obtain ⟨r0, r1, r2, r5, rlt⟩ := h.cells
  have r5b : (w.alloc (zeroT)).cell? ⟨c.R, 5, none⟩ = some (.int .i64 N.length) := HS0.out.cells.2.2.2.1
  clear hlist h hT hB1
  cases ts with
  | nil =>
    go_enter Tryd.func38, Tryd.ntmps38
    go_wp2_with fail
    refine (HS0.out.rnext 1).mono ?_
    rintro e w1 ⟨rfl, rfl⟩
    rw [show ((([] : List Tok).head?.map fun t => t.k == 1).getD false) = false from rfl]
    go_wp2_with fail
    refine (HS0.out.rtake 3).mono ?_
    intro e w1 hg
    obtain ⟨rfl, hf1⟩ : e = faultP c.E ∧ Fr c _ w1 := hg
    unfold faultP
    go_wp2
    exact ⟨rfl, rfl, HF0.out.trans hf1⟩
  | cons t r =>
    simp only [List.length_cons] at hf
    by_cases k1 : t.k = 1
    · have kb : (t.k == 1) = true := by simpa using k1
      have HV := Lib.hid (show termP c.E c.i c.j (f + 1) so N (t :: r) = listP (levelP c.E c.i c.j f) (termP c.E c.i c.j f) c.E so N r by simp only [termP]; rw [if_pos k1])
      have HC := Lib.hid (HL.out.use so N t r sl _ (by omega) k1 HS0.out HT0.out)
      rw [HV.out]
      clear k1
      go_enter Tryd.func38, Tryd.ntmps38
      go_wp2_with fail
      refine (HS0.out.rnext 1).mono ?_
      rintro e w1 ⟨rfl, rfl⟩
      rw [head_k, kb]
      go_wp2_with fail
      refine HC.out.mono ?_
      intro e w1 hg
      cases hx : listP (levelP c.E c.i c.j f) (termP c.E c.i c.j f) c.E so N r with
      | error a =>
        rw [hx] at hg
        obtain ⟨rfl, hf1⟩ := hg
        unfold faultP
        go_wp2
        exact ⟨rfl, rfl, HF0.out.trans hf1⟩
      | ok p =>
        obtain ⟨u, q⟩ := p
        rw [hx] at hg
        obtain ⟨s, rfl, hl, hfine, hs, hf1⟩ := hg
        obtain ⟨au, cps, rfl, -, -⟩ := hl.out
        have hz1 := hf1.kept _ _ _ _ HG.out (by decide) (by decide) (by decide)
        obtain ⟨⟨q0, q1, q2, q3, q4⟩, ⟨g0, g1, g2, g3, g4⟩, hGlt⟩ := cells5_of hz1
        have HZ := Lib.hid hz1
        have HE := Lib.hid (term_end (w2 := cell5 w1 w.heap.size 0 (.int .i64 u.k) (.int .i64 u.i) (.int .i64 u.j) (.int .i64 u.n) (.slice au u.kids.length cps)) hlo (HF0.out.trans hf1) (cell5_grown _ _ _ _ _ _ _ _) hz1 hs (by simpa using hl))
        have HFI := Lib.hid hfine
        clear hl hs hf1 hz1 hfine r0 r1 r2 r5 rlt r5b
        unfold tv
        go_wp2
        refine bodyPost_ret (results_cell_row rfl _ _ w.heap.size _ _ _ du rfl (five_set HZ.out) hu1 (by cases du <;> first | rfl | exact hu2) size_term) rfl ?_
        rw [hx]
        exact ⟨.slice au u.kids.length cps, rfl, HE.out.1, HFI.out, HE.out.2.1, HE.out.2.2⟩
    have kb : (t.k == 1) = false := by simpa using k1
    by_cases k3 : t.k = 3
    · have HT3 := Lib.hid (show takeT c.E 3 (t :: r) = .ok (t, r) from if_pos k3)
      have HV := Lib.hid (show termP c.E c.i c.j (f + 1) so N (t :: r) = (match idxL t.s N with | none => .error t.at_ | some q => .ok (.mk 2 q 0 0 [], r)) by simp only [termP]; first | (rw [if_neg k1, if_pos k3]; done) | (rw [if_neg k1, if_pos k3]; cases idxL t.s N <;> rfl))
      have htl := HS0.out.tok t List.mem_cons_self
      clear k1 k3
      go_enter Tryd.func38, Tryd.ntmps38
      go_wp2_with fail
      refine (HS0.out.rnext 1).mono ?_
      rintro e w1 ⟨rfl, rfl⟩
      rw [head_k, kb]
      go_wp2_with fail
      refine (HS0.out.rtake 3).mono ?_
      intro e w1 hg
      rw [HT3.out] at hg
      obtain ⟨rfl, hs1, hf1⟩ := hg
      have hBt := (Below.refl w1.heap.size w1).alloc (Nat.le_refl _) (.cells #[.int .i64 t.k, .string ⟨t.s.toArray⟩, .int .i64 t.at_] 63)
      have HS1 := Lib.hid (hs1.later hBt)
      have HF1 := Lib.hid ((HF0.out.trans hf1).trans (Fr.later hBt hs1.lo))
      have HG1 := Lib.hid ((hBt.block _ (hlt_of (hf1.kept _ _ _ _ HG.out (by decide) (by decide) (by decide)))).trans (hf1.kept _ _ _ _ HG.out (by decide) (by decide) (by decide)))
      have HK := Lib.hid (show (w1.alloc (.cells #[.int .i64 t.k, .string ⟨t.s.toArray⟩, .int .i64 t.at_] 63)).heap[w1.heap.size]? = some (.cells #[.int .i64 t.k, .string ⟨t.s.toArray⟩, .int .i64 t.at_] 63) from alloc_new _ _)
      clear hs1 hf1 hBt r0 r1 r2 r5 rlt r5b
      go_wp2_with fail
      refine (place_any c (sl + 99) t.s N r _ HS1.out htl).mono ?_
      rintro e w2 ⟨rfl, hs2, hf2⟩
      have hk2 := hf2.kept _ _ _ _ HK.out (by decide) (by decide) (by decide)
      have hz2 := hf2.kept _ _ _ _ HG1.out (by decide) (by decide) (by decide)
      have x2 : w2.cell? ⟨w1.heap.size, 2, none⟩ = some (.int .i64 t.at_) := by rw [Lib.cell_of_heap hk2]; rfl
      have hklt := hlt_of hk2
      have hmy := hs2.many
      cases hq : idxL t.s N with
      | none =>
        have hpl : placeN t.s N = -1 := by unfold placeN; rw [hq]
        rw [hpl]
        have HFE := Lib.hid (HF1.out.trans hf2)
        clear hs2 hf2 hk2 hz2
        go_wp2_with fail
        refine (fail_any _ _).mono ?_
        rintro e w3 ⟨rfl, rfl⟩
        unfold faultP
        go_wp2
        rw [HV.out, hq]
        exact ⟨rfl, rfl, HFE.out⟩
      | some q =>
        have hql := idxL_lt hq
        have hpl : placeN t.s N = ((N.length - 1 - q : Nat) : Int) := by unfold placeN; rw [hq]; show (N.length : Int) - 1 - (q : Int) = _; omega
        rw [hpl]
        obtain ⟨r0, r1, r2, r5, rlt⟩ := hs2.cells
        obtain ⟨⟨q0, q1, q2, q3, q4⟩, ⟨g0, g1, g2, g3, g4⟩, hGlt⟩ := cells5_of hz2
        have HZ := Lib.hid hz2
        have hww : IntKind.i64.wrap ((N.length : Int) - 1 - ((N.length - 1 - q : Nat) : Int)) = (q : Int) := by rw [IntWalk.i64_in _ (by omega)]; omega
        have hww2 : IntKind.i64.wrap ((N.length : Int) - 1) = (N.length : Int) - 1 := IntWalk.i64_in _ (by omega)
        have HE := Lib.hid (term_end (t := .mk 2 q 0 0 []) (s := .slice none 0 0) (w2 := cell5 w2 w.heap.size 0 (.int .i64 2) (.int .i64 q) (.int .i64 0) (.int .i64 0) (.slice none 0 0)) hlo (HF1.out.trans hf2) (cell5_grown _ _ _ _ _ _ _ _) hz2 (hs2.less (sl' := sl) (by omega)) (liesP_nil _ _))
        clear hs2 hf2 hk2 hz2 hpl
        go_wp2
        refine bodyPost_ret (results_cell_row rfl _ _ w.heap.size _ _ _ du rfl (five_set HZ.out) hu1 (by cases du <;> first | rfl | exact hu2) size_term) rfl ?_
        rw [HV.out, hq]
        refine ⟨.slice none 0 0, rfl, HE.out.1, ?_, HE.out.2.1, HE.out.2.2⟩
        unfold Tm.fine I64
        simp only [Tm.k, Tm.i, Tm.j, Tm.n]
        omega
    · have HT3 := Lib.hid (show takeT c.E 3 (t :: r) = .error t.at_ from if_neg k3)
      have HV := Lib.hid (show termP c.E c.i c.j (f + 1) so N (t :: r) = .error t.at_ by simp only [termP]; rw [if_neg k1, if_neg k3])
      clear k1 k3
      rw [HV.out]
      go_enter Tryd.func38, Tryd.ntmps38
      go_wp2_with fail
      refine (HS0.out.rnext 1).mono ?_
      rintro e w1 ⟨rfl, rfl⟩
      rw [head_k, kb]
      go_wp2_with fail
      refine (HS0.out.rtake 3).mono ?_
      intro e w1 hg
      rw [HT3.out] at hg
      obtain ⟨rfl, hf1⟩ := hg
      unfold faultP
      go_wp2
      exact ⟨rfl, rfl, HF0.out.trans hf1⟩
end Go.Proofs.YtpekceadjcbphaaDoor

namespace Go.Proofs.YtpekceadjcbphaaDoor

mutual
/-- Each variable v beneath b binders becomes f v b; nothing if one has no image. -/
def Tm.each (f : Int → Int → Option Int) : Tm → Int → Option Tm
  | .mk k i j n l, b => if k = 2 then (f i b).map (fun v => .mk 2 v 0 0 []) else (eaches f k 0 b l).map (fun l' => .mk k i j n l')
def eaches (f : Int → Int → Option Int) : Int → Nat → Int → List Tm → Option (List Tm)
  | _, _, _, [] => some []
  | k, p, b, t :: r => (t.each f (b + bindsN k p)).bind fun x => (eaches f k (p + 1) b r).map fun y => x :: y
end

end Go.Proofs.YtpekceadjcbphaaDoor

namespace Go.Proofs.YtpekceadjcbphaaDoor

def Tm.zero : Tm := .mk 0 0 0 0 []

end Go.Proofs.YtpekceadjcbphaaDoor

namespace Go.Proofs.YtpekceadjcbphaaDoor

theorem right_cases {t : Tm} (h : t.rightB = true) : t.plainB = true ∨ (t.markedB = true ∧ 3 ≤ t.k ∧ t.k ≤ 12) := by
  cases hp : t.plainB
  · right
    simp [Tm.rightB, hp] at h
    refine ⟨h, ?_⟩
    have hn : t.nodeB = true := Tm.right_node (by simp [Tm.rightB, h])
    have h1 := Tm.node_kind hn
    by_cases h2 : t.k ≤ 2
    · have := (sorts_two hn h2).1
      simp [Tm.sortsN, h, hp] at this
    · rw [Tm.markedB_eq] at h; simp at h; omega
  · exact Or.inl rfl

end Go.Proofs.YtpekceadjcbphaaDoor

namespace Go.Proofs.YtpekceadjcbphaaDoor
open Go.RowKit

theorem results_cell_tmp {P : Program} {fn : Func} {p q : Tmp} {ty : TypeId} (h : fn.results = #[.cell p ty, .tmp q]) (tmps : Array Value) (w : World) (g : Nat) (t : TypeId) (cs : Array Value) (fr : Nat × Nat) (d : TypeDesc)
    (hp : tmps.getD p undef = .pointer (some ⟨g, 0, none⟩)) (hg : w.heap[g]? = some (.cells cs t fr))
    (hu : P.underlying ty = some d) (hd : (match d with | .struct _ | .array _ _ => true | _ => false) = true) (hi : (P.info? ty).map (·.size) = some cs.size) :
    (results fn tmps).run P w = .ok (.tuple #[.agg cs, tmps.getD q undef]) w := by
  have hp' : tmps[p]?.getD undef = .pointer (some ⟨g, 0, none⟩) := by simpa using hp
  simp [results, h, hp', asAddr, run_loadVar_row w g t ty cs fr d hg hu hd hi]

/-- What a call hands back that makes a term, or says that there is none. -/
def Gives (r : Option Tm) (w : World) (e : Ending) (w' : World) : Prop := Below w.heap.size w w' ∧
  ((∃ u s', r = some u ∧ e = .returned (.tuple #[tv u s', .bool true]) ∧ LiesP w' (Own w.heap.size w') u.kids s') ∨ (∃ z : Tm, r = none ∧ z.kids = [] ∧ e = .returned (.tuple #[tv z (.slice none 0 0), .bool false])))

end Go.Proofs.YtpekceadjcbphaaDoor

namespace Go.Proofs.YtpekceadjcbphaaDoor
open Go.RowKit

theorem Shr.refl {P : Nat → Prop} {w : World} (h : Free P w) : Shr P w w := ⟨h, Nat.le_refl _, ⟨rfl, rfl, rfl⟩, fun _ _ _ => rfl, fun l _ hl => ⟨l, rfl, Nat.le_refl _, hl⟩⟩

theorem open_unfrozen {w : World} {b : Nat} {cs : Array Value} {T : TypeId} (h : w.heap[b]? = some (.cells cs T (0, 0))) (q : Nat) : w.frozen? ⟨b, q, none⟩ = false := by
  unfold World.frozen?
  rw [show (⟨b, q, none⟩ : Addr).block = b from rfl, h]; rfl

end Go.Proofs.YtpekceadjcbphaaDoor

namespace Go.Proofs.YtpekceadjcbphaaDoor
open Go.RowKit

abbrev zeroObj : Obj := .cells #[.int .i64 0, .int .i64 0, .int .i64 0, .int .i64 0, .slice none 0 0] 26

theorem five_cells {w : World} {g : Nat} {v0 v1 v2 v3 v4 : Value} {T : TypeId} (h : w.heap[g]? = some (.cells #[v0, v1, v2, v3, v4] T (0, 0))) :
    w.cell? ⟨g, 0, none⟩ = some v0 ∧ w.cell? ⟨g, 1, none⟩ = some v1 ∧ w.cell? ⟨g, 2, none⟩ = some v2 ∧ w.cell? ⟨g, 3, none⟩ = some v3 ∧ w.cell? ⟨g, 4, none⟩ = some v4 := by
  refine ⟨?_, ?_, ?_, ?_, ?_⟩ <;> (rw [cell_of_row w g _ _ _ _ h]; rfl)
theorem five_free {w : World} {g : Nat} {cs : Array Value} {T : TypeId} (h : w.heap[g]? = some (.cells cs T (0, 0))) :
    w.frozen? ⟨g, 0, none⟩ = false ∧ w.frozen? ⟨g, 1, none⟩ = false ∧ w.frozen? ⟨g, 2, none⟩ = false ∧ w.frozen? ⟨g, 3, none⟩ = false ∧ w.frozen? ⟨g, 4, none⟩ = false :=
  ⟨open_unfrozen h _, open_unfrozen h _, open_unfrozen h _, open_unfrozen h _, open_unfrozen h _⟩

/-- A list that was just made whole: zero terms. -/
theorem cells5_zeros : ∀ n : Nat, (cells5 (List.replicate n (Tm.zero, Value.slice none 0 0))) = (madeCells #[.int .i64 0, .int .i64 0, .int .i64 0, .int .i64 0, .slice none 0 0] (n * 5)).toList := by
  intro n
  apply List.ext_getElem?
  intro j
  by_cases hj : j < n * 5
  · have h5 : j % 5 < 5 := Nat.mod_lt _ (by omega)
    have hd : j / 5 < n := by omega
    have e : j = j / 5 * 5 + j % 5 := by omega
    have h1 := cells5_get (List.replicate n (Tm.zero, Value.slice none 0 0)) (j / 5) (by simpa using hd) (j % 5) h5
    rw [← e] at h1
    rw [h1]
    simp only [List.getElem_replicate]
    have hz : (madeCells #[Value.int .i64 0, .int .i64 0, .int .i64 0, .int .i64 0, .slice none 0 0] (n * 5)).toList[j]? = some (#[Value.int .i64 0, .int .i64 0, .int .i64 0, .int .i64 0, .slice none 0 0][j % 5]!) := by simp [madeCells, hj]
    rw [hz]
    generalize j % 5 = q at h5
    match q, h5 with
    | 0, _ => rfl
    | 1, _ => rfl
    | 2, _ => rfl
    | 3, _ => rfl
    | 4, _ => rfl
  · rw [List.getElem?_eq_none (by rw [cells5_length]; simp; omega), List.getElem?_eq_none (by simp [madeCells]; omega)]

theorem zero_fine : Tm.zero.fine := by simp [Tm.zero, Tm.fine, I64, Tm.k, Tm.i, Tm.j, Tm.n]
theorem full_made {B : Nat} {w : World} {g n : Nat} (h : w.ownsRow B 26 5 (.slice (some ⟨g, 0, none⟩) n n) n (madeCells #[.int .i64 0, .int .i64 0, .int .i64 0, .int .i64 0, .slice none 0 0] (n * 5)).toList) :
    Full B w g (List.replicate n (Tm.zero, .slice none 0 0)) := by
  rw [← cells5_zeros] at h
  have hb : B ≤ g ∧ ∃ cs, w.heap[g]? = some (.cells cs 26 (0, 0)) := by
    obtain ⟨-, ⟨h1, -⟩ | ⟨g', cap, cur, h1, h2, h3, -⟩⟩ := h
    · cases h1
    · obtain rfl : g = g' := by simp only [Value.slice.injEq, Option.some.injEq, Addr.mk.injEq] at h1; exact h1.1.1
      exact ⟨h2, cur, h3⟩
  refine ⟨hb.1, hb.2, fun i hi => ?_, fun p hp => ?_, fun p hp => ?_⟩
  · have cellq : ∀ q, q < 5 → w.cell? ⟨g, i * 5 + q, none⟩ = [Value.int .i64 ((List.replicate n (Tm.zero, Value.slice none 0 0))[i]).1.k, .int .i64 ((List.replicate n (Tm.zero, Value.slice none 0 0))[i]).1.i, .int .i64 ((List.replicate n (Tm.zero, Value.slice none 0 0))[i]).1.j, .int .i64 ((List.replicate n (Tm.zero, Value.slice none 0 0))[i]).1.n, ((List.replicate n (Tm.zero, Value.slice none 0 0))[i]).2][q]? := fun q hq => by
      rw [h.cellAt (i * 5 + q) (by simp at hi; omega)]; exact cells5_get _ i hi q hq
    exact ⟨cellq 0 (by omega), cellq 1 (by omega), cellq 2 (by omega), cellq 3 (by omega), cellq 4 (by omega)⟩
  · rw [(List.mem_replicate.1 hp).2]; exact zero_fine
  · rw [(List.mem_replicate.1 hp).2]; exact liesP_nil _ _

theorem Full.below {B g b o : Nat} {w : World} {xs : List (Tm × Value)} (h : Full B w g xs) (hb : b < B) (v : Value) : Full B (w.setCell ⟨b, o, none⟩ v) g xs := by
  have hg := h.above
  have hk : ∀ b', B ≤ b' → (w.setCell ⟨b, o, none⟩ v).heap[b']? = w.heap[b']? := fun b' hb' => Below.heap_setCell _ _ _ _ (by show b' ≠ b; omega)
  exact ⟨hg, by rw [hk g hg]; exact h.open', fun i hi => (h.node i hi).same (hk g hg), h.fine, fun p hp => (h.kids p hp).keep (fun b' hb' _ => hk b' hb'.1.1) (fun b' hb' _ => ⟨hb'.1.same (hk b' hb'.1.1), hb'.2⟩)⟩

theorem take_set_next {α : Type} (l : List α) (q : Nat) (x : α) (h : q < l.length) : (l.set q x).take (q + 1) = l.take q ++ [x] := by
  rw [List.take_succ_eq_append_getElem (by simpa using h), List.getElem_set_self, List.take_set_of_le (Nat.le_refl _)]
def GivesNone (w : World) (e : Ending) (w' : World) : Prop := (∃ z : Tm, e = .returned (.tuple #[tv z (.slice none 0 0), .bool false])) ∧ Below w.heap.size w w'
def GivesSome (u : Tm) (w : World) (e : Ending) (w' : World) : Prop := (∃ s', e = .returned (.tuple #[tv u s', .bool true]) ∧ LiesP w' (Own w.heap.size w') u.kids s') ∧ Below w.heap.size w w'
theorem Gives.none {w w' : World} {e : Ending} (h : Gives none w e w') : GivesNone w e w' := by
  obtain ⟨hb, ⟨u, s', h1, -⟩ | ⟨z, -, -, h2⟩⟩ := h
  · cases h1
  · exact ⟨⟨z, h2⟩, hb⟩
theorem Gives.some {u : Tm} {w w' : World} {e : Ending} (h : Gives (some u) w e w') : GivesSome u w e w' := by
  obtain ⟨hb, ⟨u', s', h1, h2, h3⟩ | ⟨z, h1, -⟩⟩ := h
  · cases h1; exact ⟨⟨s', h2, h3⟩, hb⟩
  · cases h1
end Go.Proofs.YtpekceadjcbphaaDoor

namespace Go.Proofs.YtpekceadjcbphaaDoor
open Go.RowKit Go.Maps Go.ChangeShapes

theorem kids_small (k n : Int) : kidsN k n ≤ 40 := by
  unfold kidsN givenN
  (repeat' split) <;> omega
def boxK (k i j n : Int) : Obj := .cells #[.int .i64 k, .int .i64 i, .int .i64 j, .int .i64 n, .slice none 0 0] 26
/-- The state of the kids' loop: p kids are read. -/
structure KSt (c : RC) (s : Nat) (N : Names) (w0 : World) (b g cnt p : Nat) (bx : Obj) (l : List Tm) (r : List Tok) (wr : World) : Prop where
  st : RSt c s N r wr
  fr : Fr c w0 wr
  tab : TabsR c.B wr
  box : wr.heap[b]? = some bx
  full : ∃ xs : List (Tm × Value), xs.length = cnt ∧ Full w0.heap.size wr g xs ∧ (xs.map (·.1)).take p = l
theorem kidsP_step (tp : Int → Names → List Tok → Except Nat (Tm × List Tok)) (k own : Int) (x : List UInt8) (p cnt : Nat) (N : Names) (r : List Tok) (h : p < cnt) : kidsP tp k own x p (cnt - p) N r = (match tp (if k = 12 ∧ p = 2 then 2 else own) (if bindsN k p = 0 then N else x :: N) r with
    | .error e => .error e
    | .ok (t, q) => match kidsP tp k own x (p + 1) (cnt - (p + 1)) N q with
      | .error e => .error e
      | .ok (l, q2) => .ok (t :: l, q2)) := by
  rw [show cnt - p = (cnt - (p + 1)) + 1 by omega]
  rfl
/-- What is still to come, behind what is read. -/
def kidsRest (l : List Tm) (x : Except Nat (List Tm × List Tok)) : Except Nat (List Tm × List Tok) := match x with
  | .error e => .error e
  | .ok (m, r) => .ok (l ++ m, r)
theorem KSt.on {c : RC} {s s' : Nat} {N N' : Names} {w0 wr w' : World} {b g cnt p : Nat} {bx : Obj} {l : List Tm} {r r' : List Tok} {cs : Array Value} (h : KSt c s N w0 b g cnt p bx l r wr) (hf : Fr c wr w') (hs : RSt c s' N' r' w') (hbx : bx = .cells cs 26 (0, 0)) : KSt c s' N' w0 b g cnt p bx l r' w' := by
  subst hbx
  obtain ⟨xs, h1, h2, h3⟩ := h.full
  exact ⟨hs, h.fr.trans hf, h.tab.keep hf.below, hf.kept _ _ _ _ h.box (by decide) (by decide) (by decide), xs, h1, full_fr h2 hf, h3⟩
theorem KSt.put {c : RC} {s s' : Nat} {N N' : Names} {w0 wr w2 : World} {b g cnt p : Nat} {bx : Obj} {l : List Tm} {r r' : List Tok} {u : Tm} {a : Option Addr} {cap : Nat} {cs : Array Value} (h : KSt c s N w0 b g cnt p bx l r wr) (hf : Fr c wr w2) (hs : RSt c s' N' r' w2) (hbx : bx = .cells cs 26 (0, 0)) (hp : p < cnt) (hlo : c.B ≤ w0.heap.size) (hbg : b < g)
    (hfi : u.fine) (hli : LiesP w2 (Own wr.heap.size w2) u.kids (.slice a u.kids.length cap)) :
    KSt c s' N' w0 b g cnt (p + 1) bx (l ++ [u]) r' (put5 w2 g (p * 5) u (.slice a u.kids.length cap)) ∧ (w2.cell? ⟨g, p * 5, none⟩).isSome ∧ (w2.cell? ⟨g, p * 5 + 1, none⟩).isSome ∧ (w2.cell? ⟨g, p * 5 + 2, none⟩).isSome ∧ (w2.cell? ⟨g, p * 5 + 3, none⟩).isSome ∧ (w2.cell? ⟨g, p * 5 + 4, none⟩).isSome ∧ ∃ cs, w2.heap[g]? = some (.cells cs 26 (0, 0)) := by
  obtain ⟨xs, hl, hfu0, hx⟩ := h.full
  have h2 := h.on hf hs hbx
  have hfu := full_fr hfu0 hf
  have hg : w2.grownBy (put5 w2 g (p * 5) u (.slice a u.kids.length cap)) (some g) := cell5_grown w2 g (p * 5) _ _ _ _ _
  have hli2 := hfu0.fresh (by have := h.fr.size; omega) hli
  obtain ⟨cs, hcs⟩ := hfu.open'
  have hfr := h2.fr.other hg hfu.above hlo
  have hnd := hfu.node p (by omega)
  refine ⟨⟨h2.st.other hg hcs (Nat.le_trans hlo hfu.above), hfr, h2.tab.keep ⟨hg.os, hg.tape, hg.output, hg.size, fun k hk => hg.block k (by have := h2.st.lo; omega) (fun e => by have := Option.some.inj e; have := hfu.above; omega)⟩, ?_, xs.set p (u, .slice a u.kids.length cap), by simpa using hl, hfu.fill (by omega) hfi hli2, ?_⟩, by rw [hnd.c0]; rfl, by rw [hnd.c1]; rfl, by rw [hnd.c2]; rfl, by rw [hnd.c3]; rfl, by rw [hnd.c4]; rfl, cs, hcs⟩
  · rw [hg.block b (hlt_of h2.box) (fun e => by have := Option.some.inj e; omega)]; exact h2.box
  · rw [List.map_set, take_set_next _ _ _ (by simp; omega), hx]
set_option maxHeartbeats 8000000 in
set_option maxRecDepth 20000 in
theorem rkids_any (c : RC) (f : Nat) (tp : Int → Names → List Tok → Except Nat (Tm × List Tok)) (htp : TermC c f tp) (hlen : ∀ s N ts t r, tp s N ts = .ok (t, r) → r.length < ts.length) (k i j n own : Int) (N : Names) (ts : List Tok) (sl : Nat) (w : World) (hf : ts.length < f) (h : RSt c (sl + 100) N ts w) (hT : TabsR c.B w) :
    Calls Tryd.prog 76 #[.pointer (some ⟨c.R, 0, none⟩), tv (.mk k i j n []) (.slice none 0 0), .int .i64 own] w (KidsG c sl N w (kidsK tp c.E k n own N ts)) := by
  obtain ⟨i0, hi, hz0, hz1, hz2⟩ := info_parts info_term
  have HI := Lib.hid (And.intro hi (And.intro hz0 (And.intro hz1 hz2)))
  have hlo := h.lo
  have hB1 := (Below.refl w.heap.size w).alloc (Nat.le_refl _) (boxK k i j n)
  have HF0 := Lib.hid (Fr.later hB1 hlo)
  have HS0 := Lib.hid (h.later hB1)
  have HT0 := Lib.hid (hT.keep HF0.out.below)
  have HB0 := Lib.hid (show (w.alloc (boxK k i j n)).heap[w.heap.size]? = some (boxK k i j n) from alloc_new _ _)
  have HL := Lib.hid htp
  have HLE := Lib.hid hlen
  obtain ⟨r0, r1, r2, r5, rlt⟩ := h.cells
  have hks := kids_small k n
  clear htp h hT hB1 hi hz0 hz1 hz2 hlen
  unfold tv
  go_enter Tryd.func76, Tryd.ntmps76
  go_wp2_with fail
  refine (kids_any k n _).mono ?_
  rintro e w1 ⟨rfl, rfl⟩
  by_cases hn0 : kidsN k n ≤ 0
  · have HV := Lib.hid (show kidsK tp c.E k n own N ts = .ok ([], ts) by unfold kidsK; rw [if_pos hn0])
    go_wp2
    go_ret
    rw [HV.out]
    exact ⟨.slice none 0 0, rfl, liesP_nil _ _, HS0.out.less (by omega), HF0.out⟩
  obtain ⟨cnt, hcnt⟩ : ∃ cnt : Nat, kidsN k n = (cnt : Int) := ⟨(kidsN k n).toNat, by omega⟩
  have hct : (kidsN k n).toNat = cnt := by omega
  have hc0 : 0 < cnt := by omega
  have hc40 : cnt ≤ 40 := by omega
  have hb0 : ¬ ((cnt : Int) ≤ 0) := by omega
  have HV := Lib.hid (show kidsK tp c.E k n own N ts = (if 0 < bindsN k 1 then (match takeT c.E 3 ts with | .error e => .error e | .ok (x, r) => kidsP tp k own x.s 0 cnt N r) else kidsP tp k own [] 0 cnt N ts) by unfold kidsK; rw [if_neg hn0, hct]; split <;> rfl)
  rw [hcnt]
  clear hn0 hct hcnt hks
  obtain ⟨b, hbE⟩ : ∃ b, w.heap.size = b := ⟨_, rfl⟩
  go_upto_region 4 with fail
  go_cut [8] (fun s8 wx => s8 = .string ⟨#[]⟩ ∧ wx = w.alloc (boxK k i j n))
  case first =>
    go_wp2_with fail
    go_meet
    case rel => exact ⟨rfl, rfl⟩
  case rest =>
  obtain ⟨rfl, hw⟩ := hcut
  subst hw
  go_step
  go_step
  go_cut [8] (fun s8 wx => ∃ (x : List UInt8) (r : List Tok), s8 = .string ⟨x.toArray⟩ ∧ Hid ((kidsK tp c.E k n own N ts = kidsP tp k own x 0 cnt N r ∧ x.length ≤ 10000000 ∧ r.length ≤ ts.length) ∧ RSt c (sl + 100) N r wx ∧ Fr c w wx ∧ TabsR c.B wx ∧ wx.heap[b]? = some (boxK k i j n)))
  case first =>
    have b0 : (w.alloc (boxK k i j n)).cell? ⟨b, 0, none⟩ = some (.int .i64 k) := by rw [← hbE, Lib.cell_of_heap HB0.out]; rfl
    go_wp2_with fail
    refine (binds_any _ _ _).mono ?_
    rintro e w1 ⟨rfl, rfl⟩
    obtain ⟨t0, t1, t2, t5, tlt⟩ := HS0.out.cells
    by_cases hb : 0 < bindsN k 1
    · go_wp2_with fail
      refine (HS0.out.rtake 3).mono ?_
      intro e w1 hg
      cases hx : takeT c.E 3 ts with
      | error a =>
        rw [hx] at hg
        obtain ⟨rfl, hf1⟩ := hg
        unfold faultP
        go_wp2
        rw [HV.out, if_pos hb, hx]
        exact ⟨rfl, rfl, HF0.out.trans hf1⟩
      | ok p =>
        obtain ⟨t, q⟩ := p
        rw [hx] at hg
        obtain ⟨rfl, hs1, hf1⟩ := hg
        have hfl := field_tok
        have HX := Lib.hid (show (kidsK tp c.E k n own N ts = kidsP tp k own t.s 0 cnt N q ∧ t.s.length ≤ 10000000 ∧ q.length ≤ ts.length) ∧ RSt c (sl + 100) N q w1 ∧ Fr c w w1 ∧ TabsR c.B w1 ∧ w1.heap[b]? = some (boxK k i j n) from
          ⟨⟨by rw [HV.out, if_pos hb, hx], HS0.out.tokOk hx, by have := takeT_len hx; omega⟩, hs1.less (by omega), HF0.out.trans hf1, HT0.out.keep hf1.below, hf1.kept _ _ _ _ (by rw [← hbE]; exact HB0.out) (by decide) (by decide) (by decide)⟩)
        clear hs1 hf1 hx
        go_wp2_with fail
        go_meet
        case rel => exact ⟨t.s, q, rfl, HX⟩
    · have hbz : bindsN k 1 = 0 := by have := binds_range k 1; omega
      have HBZ := Lib.hid hb
      rw [hbz]
      clear hb hbz
      go_wp2_with fail
      go_meet
      case rel => exact ⟨[], ts, rfl, Lib.hid ⟨⟨by rw [HV.out, if_neg (by have := HBZ.out; omega)], by simp, Nat.le_refl _⟩, HS0.out, HF0.out, HT0.out, by rw [← hbE]; exact HB0.out⟩⟩
  case rest =>
  obtain ⟨x, r, rfl, HX⟩ := hcut
  have hxl := HX.out.1.2.1
  have hsz1 := HX.out.2.2.1.size
  have HBX := Lib.hid HX.out.2.2.2.2
  clear r0 r1 r2 r5 rlt
  go_wp2_with (at_make; refine wpList_make_full _ rfl _ _ 24 rfl w.heap.size 26 i0 _ 5 (by kernel_rfl) HI.out.1 HI.out.2.1 HI.out.2.2.1 _ _ _ _ cnt rfl rfl rfl rfl ?bytes ?max ?base ?next)
  case bytes => rw [HI.out.2.2.2]; omega
  case max => unfold maxLen; omega
  case base => omega
  case next =>
  intro w2 hown hgrow
  obtain ⟨g, hg⟩ : ∃ g, wc.heap.size = g := ⟨_, rfl⟩
  have hful := full_made hown
  have hb2 : Below wc.heap.size wc w2 := Below.grown (Below.refl _ wc) hgrow (Nat.le_refl _) (by simp)
  have hbg : b < g := by have := hlt_of HBX.out; omega
  have HK := Lib.hid (show KSt c (sl + 2 * (cnt - 0)) N w b g cnt 0 (boxK k i j n) [] r w2 from ⟨(HX.out.2.1.later hb2).less (by omega), HX.out.2.2.1.trans (Fr.later hb2 HX.out.2.1.lo), HX.out.2.2.2.1.keep (hb2.mono HX.out.2.1.lo), (hb2.block b (hlt_of HBX.out)).trans HBX.out, _, List.length_replicate, by rw [← hg, hbE]; exact hful, rfl⟩)
  have HQ := Lib.hid HX.out.1
  rw [hg]
  clear hown hgrow hful hb2 HBX HX hg
  go_wp2_with fail
  go_loopw [33] (fun iv wr => ∃ (p : Nat) (l : List Tm) (q : List Tok), p ≤ cnt ∧ iv = .int .i64 p ∧ Hid (KSt c (sl + 2 * (cnt - p)) N w b g cnt p (boxK k i j n) l q wr) ∧ Hid (kidsK tp c.E k n own N ts = kidsRest l (kidsP tp k own x p (cnt - p) N q) ∧ q.length ≤ ts.length ∧ l.length = p)) (fun iv _ => cnt - (intOf iv).toNat)
  case atStart => exact ⟨0, [], r, Nat.zero_le _, rfl, HK, Lib.hid ⟨by rw [HQ.out.1]; cases kidsP tp k own x 0 (cnt - 0) N r with | error e => rfl | ok m => rfl, HQ.out.2.2, rfl⟩⟩
  case round =>
    obtain ⟨p, l, q, hp, rfl, HK, HR⟩ := hrel
    by_cases hlt : p < cnt
    · have b0 : wr.cell? ⟨b, 0, none⟩ = some (.int .i64 k) := by rw [Lib.cell_of_heap HK.out.box]; rfl
      obtain ⟨so, hso⟩ : ∃ so : Int, (if k = 12 ∧ p = 2 then 2 else own) = so := ⟨_, rfl⟩
      have HSO := Lib.hid hso
      have HST := Lib.hid (kidsP_step tp k own x p cnt N q hlt)
      rw [hso] at HST
      clear hso
      go_upto_region 11 with fail
      go_cut [11] (fun s11 wx => s11 = .int .i64 own ∧ wx = wr)
      case first =>
        go_wp2_with fail
        go_meet
        case rel => exact ⟨rfl, rfl⟩
      case rest =>
      obtain ⟨rfl, hw⟩ := hcut
      subst hw
      go_step
      go_step
      go_cut [11] (fun s11 wx => s11 = .int .i64 so ∧ wx = wc)
      case first =>
        by_cases hk12 : k = 12
        · have kb : (k == 12) = true := by simpa using hk12
          by_cases hp2 : p = 2
          · have pb : ((p : Int) == 2) = true := by simp; omega
            have hs2 := HSO.out
            rw [if_pos ⟨hk12, hp2⟩] at hs2
            clear hk12 hp2
            go_wp2_with fail
            go_meet
            case rel => exact ⟨by rw [← hs2], rfl⟩
          · have pb : ((p : Int) == 2) = false := by simp; omega
            have hs2 := HSO.out
            rw [if_neg (by omega)] at hs2
            clear hk12 hp2
            go_wp2_with fail
            go_meet
            case rel => exact ⟨by rw [← hs2], rfl⟩
        · have kb : (k == 12) = false := by simpa using hk12
          have hs2 := HSO.out
          rw [if_neg (by omega)] at hs2
          clear hk12
          go_wp2_with fail
          go_meet
          case rel => exact ⟨by rw [← hs2], rfl⟩
      case rest =>
      obtain ⟨rfl, hw⟩ := hcut
      subst hw
      have hplt : (p : Int) < (cnt : Int) := by omega
      have hps : p * 5 < cnt * 5 := by omega
      go_wp2_with fail
      refine (binds_any _ _ _).mono ?_
      rintro e w3 ⟨rfl, rfl⟩
      by_cases hbn : bindsN k p = 0
      · have HBN := Lib.hid hbn
        rw [hbn]
        clear hbn
        go_wp2_with fail
        have HK3 := Lib.hid (HK.out.on (Fr.refl c wc) (HK.out.st.less (sl' := sl + 2 * (cnt - (p + 1))) (by omega)) rfl)
        refine (HL.out.use so N q (sl + 2 * (cnt - (p + 1))) _ (by have := HR.out.2.1; omega) HK3.out.st HK3.out.tab).mono ?_
        intro e w4 hg
        cases hx : tp so N q with
        | error a =>
          rw [hx] at hg
          obtain ⟨rfl, hf4⟩ := hg
          unfold faultP
          go_wp2
          rw [HR.out.1, HST.out, if_pos HBN.out, hx]
          exact ⟨rfl, rfl, HK3.out.fr.trans hf4⟩
        | ok m =>
          obtain ⟨u, q2⟩ := m
          rw [hx] at hg
          obtain ⟨s, rfl, hl4, hfi4, hs4, hf4⟩ := hg
          obtain ⟨au, cu, rfl, -, -⟩ := hl4.out
          have HX4 := Lib.hid hx
          have HLN := Lib.hid (HLE.out _ _ _ _ _ hx)
          obtain ⟨hK5, c0, c1, c2, c3, c4, cs, hcs⟩ := HK3.out.put hf4 hs4 rfl hlt hlo hbg hfi4 hl4
          obtain ⟨y0, c0⟩ := Option.isSome_iff_exists.1 c0
          obtain ⟨y1, c1⟩ := Option.isSome_iff_exists.1 c1
          obtain ⟨y2, c2⟩ := Option.isSome_iff_exists.1 c2
          obtain ⟨y3, c3⟩ := Option.isSome_iff_exists.1 c3
          obtain ⟨y4, c4⟩ := Option.isSome_iff_exists.1 c4
          have HK5 := Lib.hid hK5
          have f0 : w4.frozen? ⟨g, p * 5, none⟩ = false := Lib.frozen_of_heap hcs (p * 5)
          have f1 : w4.frozen? ⟨g, p * 5 + 1, none⟩ = false := Lib.frozen_of_heap hcs (p * 5 + 1)
          have f2 : w4.frozen? ⟨g, p * 5 + 2, none⟩ = false := Lib.frozen_of_heap hcs (p * 5 + 2)
          have f3 : w4.frozen? ⟨g, p * 5 + 3, none⟩ = false := Lib.frozen_of_heap hcs (p * 5 + 3)
          have f4 : w4.frozen? ⟨g, p * 5 + 4, none⟩ = false := Lib.frozen_of_heap hcs (p * 5 + 4)
          have hRR := Lib.hid (show kidsK tp c.E k n own N ts = kidsRest (l ++ [u]) (kidsP tp k own x (p + 1) (cnt - (p + 1)) N q2) ∧ q2.length ≤ ts.length ∧ (l ++ [u]).length = p + 1 from ⟨by
            rw [HR.out.1, HST.out, if_pos HBN.out, HX4.out]
            simp only
            cases kidsP tp k own x (p + 1) (cnt - (p + 1)) N q2 with
            | error e => rfl
            | ok m => simp [kidsRest], by have := HLN.out; have := HR.out.2.1; omega, by simp; exact HR.out.2.2⟩)
          clear hl4 hfi4 hs4 hf4 hx hcs hK5
          unfold tv
          go_wp2
          go_roundw
          case rel => exact ⟨p + 1, l ++ [u], q2, by omega, by go_num, HK5, hRR⟩
          case measure => simp [intOf]; omega
      · have HBN := Lib.hid hbn
        have hbb : (bindsN k p == 0) = false := by simpa using hbn
        clear hbn
        go_wp2_with fail
        refine (bind_any c (sl + 2 * (cnt - (p + 1)) + 1) x N q wc (HK.out.st.less (by omega)) hxl).mono ?_
        rintro e w3 ⟨rfl, hs3, hf3⟩
        have HK3 := Lib.hid (HK.out.on hf3 hs3 rfl)
        clear hs3 hf3 b0
        go_wp2_with fail
        refine (HL.out.use so (x :: N) q (sl + 2 * (cnt - (p + 1)) + 1) _ (by have := HR.out.2.1; omega) HK3.out.st HK3.out.tab).mono ?_
        intro e w4 hg
        cases hx : tp so (x :: N) q with
        | error a =>
          rw [hx] at hg
          obtain ⟨rfl, hf4⟩ := hg
          unfold faultP
          go_wp2
          rw [HR.out.1, HST.out, if_neg HBN.out, hx]
          exact ⟨rfl, rfl, HK3.out.fr.trans hf4⟩
        | ok m =>
          obtain ⟨u, q2⟩ := m
          rw [hx] at hg
          obtain ⟨s, rfl, hl4, hfi4, hs4, hf4⟩ := hg
          obtain ⟨au, cu, rfl, -, -⟩ := hl4.out
          have HX4 := Lib.hid hx
          have HLN := Lib.hid (HLE.out _ _ _ _ _ hx)
          obtain ⟨hK5, c0, c1, c2, c3, c4, cs, hcs⟩ := HK3.out.put hf4 hs4 rfl hlt hlo hbg hfi4 hl4
          obtain ⟨y0, c0⟩ := Option.isSome_iff_exists.1 c0
          obtain ⟨y1, c1⟩ := Option.isSome_iff_exists.1 c1
          obtain ⟨y2, c2⟩ := Option.isSome_iff_exists.1 c2
          obtain ⟨y3, c3⟩ := Option.isSome_iff_exists.1 c3
          obtain ⟨y4, c4⟩ := Option.isSome_iff_exists.1 c4
          have HK5 := Lib.hid hK5
          have f0 : w4.frozen? ⟨g, p * 5, none⟩ = false := Lib.frozen_of_heap hcs (p * 5)
          have f1 : w4.frozen? ⟨g, p * 5 + 1, none⟩ = false := Lib.frozen_of_heap hcs (p * 5 + 1)
          have f2 : w4.frozen? ⟨g, p * 5 + 2, none⟩ = false := Lib.frozen_of_heap hcs (p * 5 + 2)
          have f3 : w4.frozen? ⟨g, p * 5 + 3, none⟩ = false := Lib.frozen_of_heap hcs (p * 5 + 3)
          have f4 : w4.frozen? ⟨g, p * 5 + 4, none⟩ = false := Lib.frozen_of_heap hcs (p * 5 + 4)
          have hRR := Lib.hid (show kidsK tp c.E k n own N ts = kidsRest (l ++ [u]) (kidsP tp k own x (p + 1) (cnt - (p + 1)) N q2) ∧ q2.length ≤ ts.length ∧ (l ++ [u]).length = p + 1 from ⟨by
            rw [HR.out.1, HST.out, if_neg HBN.out, HX4.out]
            simp only
            cases kidsP tp k own x (p + 1) (cnt - (p + 1)) N q2 with
            | error e => rfl
            | ok m => simp [kidsRest], by have := HLN.out; have := HR.out.2.1; omega, by simp; exact HR.out.2.2⟩)
          clear hl4 hfi4 hs4 hf4 hx hcs hK5
          unfold tv
          go_wp2_with fail
          refine (unbind_any c (sl + 2 * (cnt - (p + 1))) x N q2 _ HK5.out.st hxl HK.out.st.inner).mono ?_
          rintro e w6 ⟨rfl, hs6, hf6⟩
          have HK6 := Lib.hid (HK5.out.on hf6 hs6 rfl)
          clear hs6 hf6 c0 c1 c2 c3 c4 f0 f1 f2 f3 f4
          go_wp2
          go_roundw
          case rel => exact ⟨p + 1, l ++ [u], q2, by omega, by go_num, HK6, hRR⟩
          case measure => simp [intOf]; omega
    · obtain rfl : p = cnt := by omega
      obtain ⟨xs, hxs, hfu, htk⟩ := HK.out.full
      go_wp2
      go_ret
      have hcz : p - p = 0 := by omega
      have h1 := HR.out.1
      rw [hcz] at h1
      have h2 : kidsK tp c.E k n own N ts = .ok (l, q) := by rw [h1]; simp [kidsRest, kidsP]
      rw [h2]
      have hle : xs.map (·.1) = l := by rw [← htk, List.take_of_length_le (by simp; omega)]
      have hll := hfu.lies (cap := p) (by omega) (by unfold maxLen; omega)
      rw [hle, hxs] at hll
      exact ⟨_, rfl, hll, HK.out.st.less (by omega), HK.out.fr⟩
end Go.Proofs.YtpekceadjcbphaaDoor

namespace Go.Proofs.YtpekceadjcbphaaDoor
open Go

theorem take_at {P : Program} {ops : Array Oper} {Q : Exit → Act → World → Prop} {md : Region.Mode} {S : World → Prop} (i d : Nat) (oi : Oper) {v : Value} {fuel : Nat} {listed : Array Bool} {a : Act} {w : World} (hy : YieldsIf P ops S oi v a)
    (h : wpAnyH P md ops Q S fuel (listed.setIfInBounds i true) (a.put (some d) v) w)
    (hi : ops[i]? = some oi := by rfl) (hd : oi.dst = some d := by rfl)
    (hs : Region.noSelect ops = true := by kernel_rfl) (hf : Region.free md ops listed i = true := by kernel_rfl) (hr : (Region.ready md ops listed).contains i = true := by kernel_rfl)
    (hQ : ∀ c a w, Q (.panic c) (a.put (some d) v) w → Q (.panic c) a w := by exact fun _ _ _ h => h) (hS : S w := by assumption) : wpAnyH P md ops Q S (fuel + 1) listed a w := by
  rw [← hd] at hQ h
  exact wpAnyH_take hi hs hf hr hQ hy hS h
end Go.Proofs.YtpekceadjcbphaaDoor

namespace Go.Proofs.YtpekceadjcbphaaDoor
open Go.RowKit

theorem yields_row {P : Program} {ops : Array Oper} {S : World → Prop} {oi : Oper} {a : Act} (g : Nat) (ty t : TypeId) (x : Operand) (cs : Array Value) (fr : Nat × Nat) (d : TypeDesc) (hw : Region.wanted oi (yielded ops a.tmps) = true) (ho : oi.op = .load ty x)
    (hx : a.eval x = .pointer (some ⟨g, 0, none⟩)) (hS : ∀ w, S w → w.heap[g]? = some (.cells cs t fr))
    (hu : P.underlying ty = some d) (hd : (match d with | .struct _ | .array _ _ => true | _ => false) = true) (hi : (P.info? ty).map (·.size) = some cs.size) : YieldsIf P ops S oi (.agg cs) a := by
  refine .inl ⟨hw, fun w h => ?_⟩
  have hr := run_loadVar_row (P := P) w g t ty cs fr d (hS w h) hu hd hi
  unfold execOp
  simp only [ho, hx, Instr.loadAt, Instr.sureAddr, Sem.run_bind, Sem.run_pure, Result.andThen_ok, hr]
end Go.Proofs.YtpekceadjcbphaaDoor
