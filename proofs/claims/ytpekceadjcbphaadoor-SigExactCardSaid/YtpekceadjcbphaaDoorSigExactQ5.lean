/-
  Facts and contracts that the proof of SigExact uses.
-/
import Derived.Lib.ItoaNum
import Derived.Lib.ItoaLen
import Derived.Test.YtpekceadjcbphaaDoorRows
import Derived.WalkKit
import Derived.Lib.Hide
import Derived.ProofKit
import Derived.LoopTactic
import Derived.Below
import Derived.IntWalk
import Derived.Lib.Strings
import Derived.Laws.Strings2
import Derived.Deep.AppendLies
import Derived.Laws.Rows
import Derived.OwnWalk
import Derived.KernelRfl
import Derived.Deep.RegionHeld3
import Derived.Lib.Builder
import Derived.WalkSmall
import Derived.Maps.GroupsBeside
import Derived.Maps.StringElems
import Derived.Laws.OwnMore
import Derived.Deep.RegionLaw
import Derived.Maps.AppendAt
import Derived.Deep.Cut
import Derived.Deep.DeepCutAuto
import Derived.Maps.OwnOps
import Derived.Maps.OwnSet
import Derived.Lib.MinMax
import Derived.Laws.IdiomCopy
import Derived.Deep.Slices
import Derived.Lib.QuietBelow
import Derived.StillTailTactics
import Derived.BigQuiet
import Derived.Deep.RegionWith
import Derived.OrdersHeld
import Derived.Recover
import Derived.RegionTactic
import Derived.Defers
import Derived.Laws.StructEq
import GoSem.Core.Float
import Derived.Laws.Cover2
import Derived.Laws.FloatArith
import Derived.Laws.Externs
import Derived.Deep.QuietTactic
import Derived.Deep.CutBlock
import Derived.Deep.LoopGhost
import Derived.Test.YtpekceadjcbphaaDoorShelf
import Derived.Lib.AppendIntMem
import Derived.Lib.LaidTab
import Derived.OpenShut
import Derived.Carry
import Derived.LaidMore
import Derived.LaidSub
import Derived.LaidHandle
import Derived.Stop.Joined
import Derived.JoinedOf
import Derived.Test.YtpekceadjcbphaaDoorCards
import Derived.Test.YtpekceadjcbphaaDoorTie
import Derived.SevenTiedAt
import Derived.ChangeMaps5
import Derived.Test.YtpekceadjcbphaaDoorSigExactQ4
namespace Go.Proofs.YtpekceadjcbphaaDoor.Rt
open Go.RowKit
open Dv (XS kindAt wordAt placeAt wantX rrO rrX badV PTok hltD typeD)

def strV (x : List UInt8) : Value := .string ⟨x.toArray⟩
/-- The names' row: the outermost first. -/
def NRs (w : World) (nv : Value) (N : Names) : Prop := ∃ g cap cur, nv = .slice (some ⟨g, 0, none⟩) N.length cap ∧ w.heap[g]? = some (Obj.cells cur 9 (0, 0)) ∧ N.length ≤ cap ∧ cap ≤ maxLen ∧ cur.size = cap ∧ cur.toList.take N.length = N.reverse.map strV
theorem below_gr {w w' : World} (h : Below w.heap.size w w') : w.grownBy w' none := ⟨h.os, h.tape, h.output, h.size, fun k hk _ => h.block k hk⟩
theorem below_of {w w' : World} (h : w.grownBy w' none) : Below w.heap.size w w' := ⟨h.os, h.tape, h.output, h.size, fun k hk => h.block k hk (by simp)⟩
theorem cell_lt {w : World} {a : Addr} {u : Value} (h : w.cell? a = some u) : a.block < w.heap.size := by
  rcases Nat.lt_or_ge a.block w.heap.size with h1 | h1
  · exact h1
  · exfalso
    simp [World.cell?, Array.getElem?_eq_none h1] at h
theorem cell_gr {w w' : World} {a : Addr} {u : Value} (hg : w.grownBy w' none) (h : w.cell? a = some u) : w'.cell? a = some u := (World.cell?_of_block (hg.block _ (cell_lt h) (by simp))).trans h
/-- The same, or no row at all. -/
def NR (w : World) (nv : Value) (N : Names) : Prop := (nv = .slice none 0 0 ∧ N = []) ∨ NRs w nv N
theorem NR.same {w w' : World} {nv : Value} {N : Names} (h : NR w nv N) (hg : w.grownBy w' none) : NR w' nv N := by
  rcases h with h | ⟨g, cap, cur, e, hh, r⟩
  · exact Or.inl h
  · exact Or.inr ⟨g, cap, cur, e, (hg.block _ (hltD hh) (by simp)).trans hh, r⟩
theorem NR.fw {c : PR} {w w' : World} {nv nv' : Value} {s : XS} {N : Names} (h : NR w nv N) (hs : RS c nv' s w) (hg : Fw c w w') : NR w' nv N := by
  rcases h with h | ⟨g, cap, cur, e, hh, r⟩
  · exact Or.inl h
  refine Or.inr ⟨g, cap, cur, e, (hg.block _ (hltD hh) (fun e2 => ?_)).trans hh, r⟩
  obtain rfl := Option.some.inj e2
  have := hs.rd
  unfold rrX rrO at this
  exact absurd (typeD hh this) (by decide)
theorem nr_of {B n : Nat} {xs : List Value} {w : World} {v : Value} (h : w.ownsRow B 9 1 v n xs) (hv : v ≠ .slice none 0 0) {N : Names} (hn : n = N.length) (hx : xs = N.reverse.map strV) : NRs w v N := by
  subst hn hx
  obtain ⟨-, ⟨e, -⟩ | ⟨g, cap, cur, e, -, hh, h1, h2, h3, h4⟩⟩ := h
  · exact absurd e hv
  · exact ⟨g, cap, cur, e, hh, h1, h2, by omega, by rw [Nat.mul_one] at h4; exact h4⟩
theorem own_empty (w : World) : (w.alloc (.cells #[] 9)).ownsRow 0 9 1 (.slice (some ⟨w.heap.size, 0, none⟩) 0 0) 0 [] := ⟨rfl, Or.inr ⟨_, 0, #[], rfl, Nat.zero_le _, alloc_new _ _, Nat.le_refl _, Nat.zero_le _, rfl, rfl⟩⟩
theorem own_empty_block (w : World) : (Value.slice (some ⟨w.heap.size, 0, none⟩) 0 0).ownBlock = some w.heap.size := rfl
theorem strs_one (l : List (List UInt8)) : ∀ u ∈ l.map strV, u.oneCell' = true := by
  intro u hu
  obtain ⟨x, -, rfl⟩ := List.mem_map.1 hu
  rfl
theorem NRs.cells {w : World} {nv : Value} {N : Names} (h : NRs w nv N) : ∃ g cap, nv = .slice (some ⟨g, 0, none⟩) N.length cap ∧ N.length ≤ cap ∧ cap ≤ maxLen ∧ ∀ j u, (N.reverse.map strV)[j]? = some u → w.cell? ((⟨g, 0, none⟩ : Addr).add j) = some u := by
  obtain ⟨g, cap, cur, e, hh, h1, h2, h3, h4⟩ := h
  refine ⟨g, cap, e, h1, h2, fun j u hu => ?_⟩
  rw [← h4, List.getElem?_take] at hu
  split at hu
  · rw [Addr.add_lit, Lib.cell_of_heap hh]
    simpa using hu
  · cases hu
theorem NR.cells {w : World} {nv : Value} {N : Names} (h : NR w nv N) (hne : N ≠ []) : ∃ g cap, nv = .slice (some ⟨g, 0, none⟩) N.length cap ∧ N.length ≤ cap ∧ cap ≤ maxLen ∧ ∀ j u, (N.reverse.map strV)[j]? = some u → w.cell? ((⟨g, 0, none⟩ : Addr).add j) = some u := (h.resolve_left (fun e => hne e.2)).cells
theorem NR.slc {w : World} {nv : Value} {N : Names} (h : NR w nv N) : ∃ a cap, nv = .slice a N.length cap ∧ N.length ≤ cap ∧ cap ≤ maxLen := by
  rcases h with ⟨rfl, rfl⟩ | h
  · exact ⟨none, 0, rfl, Nat.le_refl _, Nat.zero_le _⟩
  · obtain ⟨g, cap, e, h1, h2, -⟩ := h.cells
    exact ⟨_, cap, e, h1, h2⟩
theorem info_str : (Tryd.prog.info? 9).map (fun i => (i.zero, i.size, i.bytes)) = some (some (.string ⟨#[]⟩), 1, 16) := by kernel_rfl
theorem append_none {w : World} {g : Nat} {cp : Nat} (ty : TypeId) (_h : w.heap[g]? = some (.cells #[] 9 (0, 0))) : (Builtin.append_ #[22, 22] ty #[.slice (some ⟨g, 0, none⟩) 0 0, .slice none 0 cp]).run Tryd.prog w = .ok (.slice (some ⟨g, 0, none⟩) 0 0) w := by
  obtain ⟨i0, hi, hz0, hz1, hz2⟩ := info_parts info_str
  have ht : Tryd.prog.underlying 22 = some (.slice 9) := by kernel_rfl
  simp [Builtin.append_, run_underlying ht, sizeOf, typeInfo, hi, Builtin.lenOf, Builtin.firstCells, storeCells]
theorem wpList_append_none {ops : Array Oper} {rest : List Oper} {o : Oper} {a : Act} {w : World} {E : Exit → Act → World → Prop} (hgd : o.guard = none) (s x : Operand) {g cp : Nat}
    (ho : o.op = .call { callee := .builtin .append, args := #[s, x], argTypes := #[22, 22] }) (hs : a.eval s = .slice (some ⟨g, 0, none⟩) 0 0) {m : Nat} (hx : a.eval x = .slice none m cp) (hm : m = 0) (h : w.heap[g]? = some (.cells #[] 9 (0, 0)))
    (hk : wpList Tryd.prog ops E rest (a.put o.dst (.slice (some ⟨g, 0, none⟩) 0 0)) w) : wpList Tryd.prog ops E (o :: rest) a w :=
  wpList_plain hgd fun K hK => by
    subst hm
    unfold Oper.wp execOp
    simp only [ho, resolve, invoke, builtin, Sem.run_bind, Sem.run_pure, Result.andThen_ok, List.map_toArray, List.map_cons, List.map_nil, hs, hx, append_none _ h]
    exact hK _ _ hk
theorem wp_append_strs {o : Oper} {a : Act} {w : World} {K : Act → World → Prop} {E : Exit → Act → World → Prop} (s x : Operand)
    (ho : o.op = .call { callee := .builtin .append, args := #[s, x], argTypes := #[22, 22] }) (v : Value) (n : Nat) (xs : List Value) (hs : a.eval s = v) (hown : w.ownsRow 0 9 1 v n xs)
    (ad : Addr) (m cp : Nat) (news : List Value) (hx : a.eval x = .slice (some ad) m cp) (hl : news.length = m) (hnews : ∀ j u, news[j]? = some u → w.cell? (ad.add j) = some u) (h1 : ∀ u ∈ news, u.oneCell' = true) (hm : n + m ≤ 1000000000)
    (h : ∀ v' w', w'.ownsRow 0 9 1 v' (n + m) (xs ++ news) → w.grownBy w' v.ownBlock → (v' = .slice none 0 0 ↔ v = .slice none 0 0 ∧ m = 0) → (v'.ownBlock = v.ownBlock ∨ v'.ownBlock = some w.heap.size) → K (a.put o.dst v') w') : o.wp Tryd.prog a w K E := by
  obtain ⟨i0, hi, hz0, hz1, hz2⟩ := info_parts info_str
  have ht : Tryd.prog.underlying 22 = some (.slice 9) := by kernel_rfl
  obtain ⟨v', w', hr, h2, h3, h4, h5⟩ := run_append_own_at (P := Tryd.prog) w 0 22 o.type 9 i0 _ 1 16 ht hi hz0 hz1 hz2 rfl (by decide) v n xs hown ad m cp news (by omega) hnews h1 (by unfold maxLen; omega) (by omega) (Nat.zero_le _)
  unfold Oper.wp execOp
  simp only [ho, resolve, invoke, builtin, Sem.run_bind, Sem.run_pure, Result.andThen_ok, List.map_toArray, List.map_cons, List.map_nil, hs, hx, hr]
  exact h v' w' h2 h3 h4 h5
theorem wpList_append_strs {ops : Array Oper} {rest : List Oper} {o : Oper} {a : Act} {w : World} {E : Exit → Act → World → Prop} (hgd : o.guard = none) (s x : Operand)
    (ho : o.op = .call { callee := .builtin .append, args := #[s, x], argTypes := #[22, 22] }) (v : Value) (n : Nat) (xs : List Value) (hs : a.eval s = v) (hown : w.ownsRow 0 9 1 v n xs)
    (ad : Addr) (m cp : Nat) (news : List Value) (hx : a.eval x = .slice (some ad) m cp) (hl : news.length = m) (hnews : ∀ j u, news[j]? = some u → w.cell? (ad.add j) = some u) (h1 : ∀ u ∈ news, u.oneCell' = true) (hm : n + m ≤ 1000000000)
    (h : ∀ v' w', w'.ownsRow 0 9 1 v' (n + m) (xs ++ news) → w.grownBy w' v.ownBlock → (v' = .slice none 0 0 ↔ v = .slice none 0 0 ∧ m = 0) → (v'.ownBlock = v.ownBlock ∨ v'.ownBlock = some w.heap.size) → wpList Tryd.prog ops E rest (a.put o.dst v') w') : wpList Tryd.prog ops E (o :: rest) a w :=
  wpList_plain hgd fun _ hK => wp_append_strs s x ho v n xs hs hown ad m cp news hx hl hnews h1 hm fun v' w' h2 h3 h4 h5 => hK _ _ (h v' w' h2 h3 h4 h5)
theorem step_append_strs {ops : Array Oper} {o : Oper} {a : Act} {w : World} {K : Act → World → Prop} {E : Exit → Act → World → Prop} {F : Prop} (hgd : o.guard = none) (s x : Operand)
    (ho : o.op = .call { callee := .builtin .append, args := #[s, x], argTypes := #[22, 22] }) (v : Value) (n : Nat) (xs : List Value) (hs : a.eval s = v) (hown : w.ownsRow 0 9 1 v n xs)
    (ad : Addr) (m cp : Nat) (news : List Value) (hx : a.eval x = .slice (some ad) m cp) (hl : news.length = m) (hnews : ∀ j u, news[j]? = some u → w.cell? (ad.add j) = some u) (h1 : ∀ u ∈ news, u.oneCell' = true) (hm : n + m ≤ 1000000000)
    (h : ∀ v' w', w'.ownsRow 0 9 1 v' (n + m) (xs ++ news) → w.grownBy w' v.ownBlock → (v' = .slice none 0 0 ↔ v = .slice none 0 0 ∧ m = 0) → (v'.ownBlock = v.ownBlock ∨ v'.ownBlock = some w.heap.size) → K (a.put o.dst v') w') : if Region.wanted o (yielded ops a.tmps) = true then Oper.wp Tryd.prog o a w K E else F := by
  have hw : Region.wanted o (yielded ops a.tmps) = true := by simp [Region.wanted, hgd]
  rw [if_pos hw]
  exact wp_append_strs s x ho v n xs hs hown ad m cp news hx hl hnews h1 hm h
theorem RS.setn {c : PR} {nv : Value} {s : XS} {w : World} {N : Names} (h : RS c nv s w) (nv' : Value) (hN : NR w nv' N) : RS c nv' s (w.setCell ⟨c.R, 5, none⟩ nv') ∧ NR (w.setCell ⟨c.R, 5, none⟩ nv') nv' N ∧ Fw c w (w.setCell ⟨c.R, 5, none⟩ nv') := by
  have hg : Fw c w (w.setCell ⟨c.R, 5, none⟩ nv') := grown_at ⟨rfl, rfl, rfl, Nat.le_refl _, fun _ _ _ => rfl⟩ 5 _
  refine ⟨h.of hg ?_, hN.fw h hg, hg⟩
  have r := h.rd
  unfold rrX rrO at r ⊢
  exact heap_setCell_same w c.R 5 _ _ _ r
set_option maxRecDepth 20000 in
theorem rpush_row (c : PR) (nv : Value) (s : XS) (N X : Names) (xa : Addr) (xc : Nat) (w : World) (h : RS c nv s w) (hN : NRs w nv N) (hX : ∀ j u, (X.reverse.map strV)[j]? = some u → w.cell? (xa.add j) = some u) (hm : N.length + X.length ≤ 100000000) :
    Calls Tryd.prog 32 #[.pointer (some ⟨c.R, 0, none⟩), .slice (some xa) X.length xc] w fun e w' => e = .returned (.tuple #[]) ∧ ∃ nv', RS c nv' s w' ∧ NR w' nv' (X ++ N) ∧ Fw c w w' := by
  obtain ⟨g, cap, rfl, hc1, hc2, hcs⟩ := hN.cells
  obtain ⟨c0, c1, c2, c3, c4, c5⟩ := h.cells
  have HA := Lib.hid (below_gr ((Below.refl w.heap.size w).alloc (Nat.le_refl _) (.cells #[] 9)))
  have HO := Lib.hid (own_empty w)
  have HNA := Lib.hid (fun (j : Nat) (u : Value) (hu : (N.reverse.map strV)[j]? = some u) => cell_gr HA.out (hcs j u hu))
  have HS := Lib.hid h
  have HX := Lib.hid hX
  have c5a := cell_gr HA.out c5
  clear h hX hcs hN c0 c1 c2 c3 c4 c5
  go_enter Tryd.func32, Tryd.ntmps32
  go_wp2_with (first
    | (at_builtin
       refine wpList_append_strs rfl (.tmp 5) (.tmp 9) rfl (.slice (some ⟨w.heap.size, 0, none⟩) 0 0) 0 [] rfl HO.out ⟨g, 0, none⟩ N.length cap (N.reverse.map strV) rfl (by simp) HNA.out (strs_one _) (by omega) ?_
       intro v1 w1 hown1 hg1 hnil1 hat1
       have HB1 := Lib.hid (show w.grownBy w1 none from below_gr ((below_of HA.out).grown hg1 (below_of HA.out).size (fun k hk => by rw [own_empty_block] at hk; cases hk; exact Nat.le_refl _)))
       have HAT := Lib.hid (show ∀ k, v1.ownBlock = some k → w.heap.size ≤ k from fun k hk => by
         rcases hat1 with e | e <;> rw [e] at hk
         · rw [own_empty_block] at hk; cases hk; exact Nat.le_refl _
         · cases hk; have := HA.out.size; omega)
       have HO1 := Lib.hid hown1
       have HNI := Lib.hid (show v1 ≠ .slice none 0 0 from fun e => by have := (hnil1.1 e).1; cases this)
       clear hown1 hg1 hnil1 hat1)
    | (at_builtin
       refine wpList_append_strs rfl (.tmp 10) (.tmp 11) rfl v1 (0 + N.length) ([] ++ N.reverse.map strV) rfl HO1.out xa X.length xc (X.reverse.map strV) rfl (by simp) (fun j u hu => cell_gr HB1.out (HX.out j u hu)) (strs_one _) (by omega) ?_
       intro v2 w2 hown2 hg2 hnil2 hat2
       have HB2 := Lib.hid (show w.grownBy w2 none from below_gr ((below_of HB1.out).grown hg2 (below_of HB1.out).size HAT.out))
       have HN2 := Lib.hid (nr_of hown2 (fun e => HNI.out (hnil2.1 e).1) (N := X ++ N) (by simp; omega) (by simp))
       have HS2 := Lib.hid (HS.out.same HB2.out)
       have hf5 := HS2.out.free 5
       have c5n := HS2.out.cells.2.2.2.2.2
       clear hown2 hg2 hnil2 hat2
       obtain ⟨g2, cap2, hv2, -⟩ := HN2.out.cells
       subst hv2))
  have hst := HS2.out.setn _ (Or.inr HN2.out)
  simp only [List.length_append] at hst
  exact bodyPost_end (results_none rfl _ _ _) rfl ⟨rfl, _, hst.1, hst.2.1, (Fw.same (Fw.refl c w) HB2.out).trans hst.2.2⟩
set_option maxRecDepth 20000 in
theorem rpush_nil (c : PR) (s : XS) (X : Names) (xa : Addr) (xc : Nat) (w : World) (h : RS c (.slice none 0 0) s w) (hX : ∀ j u, (X.reverse.map strV)[j]? = some u → w.cell? (xa.add j) = some u) (hm : X.length ≤ 100000000) :
    Calls Tryd.prog 32 #[.pointer (some ⟨c.R, 0, none⟩), .slice (some xa) X.length xc] w fun e w' => e = .returned (.tuple #[]) ∧ ∃ nv', RS c nv' s w' ∧ NR w' nv' X ∧ Fw c w w' := by
  obtain ⟨c0, c1, c2, c3, c4, c5⟩ := h.cells
  have HA := Lib.hid (below_gr ((Below.refl w.heap.size w).alloc (Nat.le_refl _) (.cells #[] 9)))
  have HO := Lib.hid (own_empty w)
  have HAN := Lib.hid (show (w.alloc (.cells #[] 9)).heap[w.heap.size]? = some (.cells #[] 9 (0, 0)) from alloc_new _ _)
  have HS := Lib.hid h
  have HX := Lib.hid hX
  have c5a := cell_gr HA.out c5
  clear h hX c0 c1 c2 c3 c4 c5
  go_enter Tryd.func32, Tryd.ntmps32
  go_wp2_with (first
    | (at_builtin
       refine wpList_append_none rfl (.tmp 5) (.tmp 9) rfl rfl (m := 0) rfl rfl HAN.out ?_)
    | (at_builtin
       refine wpList_append_strs rfl (.tmp 10) (.tmp 11) rfl (.slice (some ⟨w.heap.size, 0, none⟩) 0 0) 0 [] rfl HO.out xa X.length xc (X.reverse.map strV) rfl (by simp) (fun j u hu => cell_gr HA.out (HX.out j u hu)) (strs_one _) (by omega) ?_
       intro v2 w2 hown2 hg2 hnil2 hat2
       have HB2 := Lib.hid (show w.grownBy w2 none from below_gr ((below_of HA.out).grown hg2 (below_of HA.out).size (fun k hk => by rw [own_empty_block] at hk; cases hk; exact Nat.le_refl _)))
       have HN2 := Lib.hid (nr_of hown2 (fun e => by have := (hnil2.1 e).1; cases this) (N := X) (by simp) rfl)
       have HS2 := Lib.hid (HS.out.same HB2.out)
       have hf5 := HS2.out.free 5
       have c5n := HS2.out.cells.2.2.2.2.2
       clear hown2 hg2 hnil2 hat2
       obtain ⟨g2, cap2, hv2, -⟩ := HN2.out.cells
       subst hv2))
  have hst := HS2.out.setn _ (Or.inr HN2.out)
  exact bodyPost_end (results_none rfl _ _ _) rfl ⟨rfl, _, hst.1, hst.2.1, (Fw.same (Fw.refl c w) HB2.out).trans hst.2.2⟩
set_option maxRecDepth 20000 in
theorem rpush_any (c : PR) (nv : Value) (s : XS) (N X : Names) (xa : Addr) (xc : Nat) (w : World) (h : RS c nv s w) (hN : NR w nv N) (hX : ∀ j u, (X.reverse.map strV)[j]? = some u → w.cell? (xa.add j) = some u) (hm : N.length + X.length ≤ 100000000) :
    Calls Tryd.prog 32 #[.pointer (some ⟨c.R, 0, none⟩), .slice (some xa) X.length xc] w fun e w' => e = .returned (.tuple #[]) ∧ ∃ nv', RS c nv' s w' ∧ NR w' nv' (X ++ N) ∧ Fw c w w' := by
  rcases hN with ⟨rfl, rfl⟩ | hN
  · have hq := rpush_nil c s X xa xc w h hX (by simpa using hm)
    simpa using hq
  · exact rpush_row c nv s N X xa xc w h hN hX hm
set_option maxHeartbeats 1000000 in
set_option maxRecDepth 20000 in
theorem rpop_any (c : PR) (nv : Value) (s : XS) (N : Names) (b : Nat) (w : World) (h : RS c nv s w) (hN : NR w nv N) (hb : 0 < b ∧ b ≤ N.length) (hm : N.length ≤ 100000000) :
    Calls Tryd.prog 62 #[.pointer (some ⟨c.R, 0, none⟩), .int .i64 b] w fun e w' => e = .returned (.tuple #[]) ∧ ∃ nv', RS c nv' s w' ∧ NR w' nv' (N.drop b) ∧ Fw c w w' := by
  obtain ⟨hb0, hb⟩ := hb
  obtain ⟨g, cap, rfl, hc1, hc2, hcs⟩ := hN.cells (fun e => by rw [e] at hb; simp at hb; omega)
  obtain ⟨c0, c1, c2, c3, c4, c5⟩ := h.cells
  have HA := Lib.hid (show w.grownBy (w.alloc (.cells #[] 9)).drew none from (drewN_gr w 1).trans (below_gr ((Below.refl w.drew.heap.size w.drew).alloc (Nat.le_refl _) (.cells #[] 9))))
  have HO := Lib.hid (show (w.alloc (.cells #[] 9)).drew.ownsRow 0 9 1 (.slice (some ⟨w.heap.size, 0, none⟩) 0 0) 0 [] from own_empty w)
  have HNA := Lib.hid (show ∀ j u, ((N.drop b).reverse.map strV)[j]? = some u → (w.alloc (.cells #[] 9)).drew.cell? ((⟨g, 0, none⟩ : Addr).add j) = some u from fun j u hu => cell_gr HA.out (hcs j u (by
    have e : (N.drop b).reverse = N.reverse.take (N.length - b) := by rw [List.reverse_drop]
    rw [e, List.map_take, List.getElem?_take] at hu
    split at hu
    · exact hu
    · cases hu)))
  have HS := Lib.hid h
  have hle : N.length ≤ cap + b := by omega
  have hw1 : IntKind.i64.wrap ((N.length : Int) - (b : Int)) = ((N.length - b : Nat) : Int) := by rw [IntWalk.i64_in _ (by omega)]; omega
  have c5a : (w.alloc (.cells #[] 9)).cell? ⟨c.R, 5, none⟩ = some (.slice (some ⟨g, 0, none⟩) N.length cap) := (show (w.alloc (.cells #[] 9)).drew.cell? ⟨c.R, 5, none⟩ = some (.slice (some ⟨g, 0, none⟩) N.length cap) from cell_gr HA.out c5)
  clear h hcs hN c0 c1 c2 c3 c4
  go_enter Tryd.func62, Tryd.ntmps62
  go_wp2_with fail
  go_region_law (first
    | (refine step_append_strs rfl (.tmp 5) (.tmp 17) rfl (.slice (some ⟨w.heap.size, 0, none⟩) 0 0) 0 [] rfl HO.out ⟨g, 0, none⟩ (N.length - b) cap ((N.drop b).reverse.map strV) rfl (by simp) HNA.out (strs_one _) (by omega) ?_
       intro v2 w2 hown hg hnil hat
       have HB2 := Lib.hid (show w.grownBy w2 none from below_gr ((below_of HA.out).grown hg (below_of HA.out).size (fun k hk => by rw [own_empty_block] at hk; cases hk; exact Nat.le_refl _)))
       have HS2 := Lib.hid (HS.out.same HB2.out)
       have HN2 := Lib.hid (nr_of hown (fun e => by have := (hnil.1 e).1; cases this) (N := N.drop b) (by simp) rfl)
       have hf5 := HS2.out.free 5
       have c5n := HS2.out.cells.2.2.2.2.2
       clear hown hg hnil hat
       obtain ⟨g2, cap2, hv2, -⟩ := HN2.out.cells
       subst hv2))
  all_goals
    have hst := HS2.out.setn _ (Or.inr HN2.out)
    simp only [List.length_drop] at hst
    go_wp2
    exact bodyPost_end (results_none rfl _ _ _) rfl ⟨rfl, _, hst.1, hst.2.1, (Fw.same (Fw.refl c w) HB2.out).trans hst.2.2⟩
end Go.Proofs.YtpekceadjcbphaaDoor.Rt

namespace Go.Proofs.YtpekceadjcbphaaDoor.Sg
open Go.RowKit Go.Maps Go.ChangeShapes
open Rt (strV below_gr below_of cell_gr cell_lt)
open Dv (hltD typeD)

structure LC where
  R : Nat
  txt : ByteArray
  i : Int
  j : Int
def lnO (c : LC) (tv nv : Value) : Obj := .cells #[.string c.txt, tv, nv, .int .i64 c.i, .int .i64 c.j] 61 (0, 0)
structure LS (c : LC) (tv nv : Value) (ts : List Tok) (N : Names) (w : World) : Prop where
  rd : w.heap[c.R]? = some (lnO c tv nv)
  tok : TLies w ts tv
  nm : w.ownsRow 0 9 1 nv N.length (N.map strV)
abbrev Gr (c : LC) (w w' : World) : Prop := w.grownBy w' (some c.R)
theorem LS.lt {c : LC} {tv nv : Value} {ts : List Tok} {N : Names} {w : World} (h : LS c tv nv ts N w) : c.R < w.heap.size := hltD h.rd
theorem LS.cells {c : LC} {tv nv : Value} {ts : List Tok} {N : Names} {w : World} (h : LS c tv nv ts N w) : w.cell? ⟨c.R, 0, none⟩ = some (.string c.txt) ∧ w.cell? ⟨c.R, 1, none⟩ = some tv ∧ w.cell? ⟨c.R, 2, none⟩ = some nv ∧ w.cell? ⟨c.R, 3, none⟩ = some (.int .i64 c.i) ∧ w.cell? ⟨c.R, 4, none⟩ = some (.int .i64 c.j) := by
  have r := h.rd
  unfold lnO at r
  exact ⟨by rw [Lib.cell_of_heap r]; rfl, by rw [Lib.cell_of_heap r]; rfl, by rw [Lib.cell_of_heap r]; rfl, by rw [Lib.cell_of_heap r]; rfl, by rw [Lib.cell_of_heap r]; rfl⟩
theorem LS.free {c : LC} {tv nv : Value} {ts : List Tok} {N : Names} {w : World} (h : LS c tv nv ts N w) (q : Nat) : w.frozen? ⟨c.R, q, none⟩ = false := Lib.frozen_of_heap (by have r := h.rd; unfold lnO at r; exact r) q
theorem tlies_gr {c : LC} {tv nv v : Value} {ts r : List Tok} {N : Names} {w w' : World} (h : LS c tv nv ts N w) (ht : TLies w r v) (hg : Gr c w w') : TLies w' r v :=
  ht.keep fun g cs fz e => (hg.block g (hltD e) (fun e2 => by
    obtain rfl := Option.some.inj e2
    have r := h.rd
    unfold lnO at r
    exact absurd (typeD e r) (by decide))).trans e
theorem own_gr {c : LC} {tv nv : Value} {ts : List Tok} {N : Names} {w w' : World} (h : LS c tv nv ts N w) (hg : Gr c w w') : w'.ownsRow 0 9 1 nv N.length (N.map strV) := by
  obtain ⟨h1, h2⟩ := h.nm
  refine ⟨h1, ?_⟩
  rcases h2 with h2 | ⟨g, cap, cur, hv, hgb, hh, r⟩
  · exact Or.inl h2
  · refine Or.inr ⟨g, cap, cur, hv, hgb, (hg.block g (hltD hh) (fun e2 => ?_)).trans hh, r⟩
    obtain rfl := Option.some.inj e2
    have r := h.rd
    unfold lnO at r
    exact absurd (typeD hh r) (by decide)
theorem LS.of {c : LC} {tv nv tv' : Value} {ts r : List Tok} {N : Names} {w w' : World} (h : LS c tv nv ts N w) (hg : Gr c w w') (ht : TLies w r tv') (hr : w'.heap[c.R]? = some (lnO c tv' nv)) : LS c tv' nv r N w' := ⟨hr, tlies_gr h ht hg, own_gr h hg⟩
theorem LS.same {c : LC} {tv nv : Value} {ts : List Tok} {N : Names} {w w' : World} (h : LS c tv nv ts N w) (hg : w.grownBy w' none) : LS c tv nv ts N w' :=
  h.of (tv' := tv) ⟨hg.os, hg.tape, hg.output, hg.size, fun b hb _ => hg.block b hb (by simp)⟩ h.tok ((hg.block _ h.lt (by simp)).trans h.rd)
theorem gr_same {c : LC} {w w' w2 : World} (h : Gr c w w') (hg : w'.grownBy w2 none) : Gr c w w2 := h.trans ⟨hg.os, hg.tape, hg.output, hg.size, fun b hb _ => hg.block b hb (by simp)⟩
def tokB (t : Tok) : Obj := .cells #[.int .i64 t.k, .string ⟨t.s.toArray⟩, .int .i64 t.at_] 63
abbrev zTok : Obj := .cells #[.int .i64 0, .string ⟨#[]⟩, .int .i64 0] 63
def agT (t : Tok) : Value := .agg #[.int .i64 t.k, .string ⟨t.s.toArray⟩, .int .i64 t.at_]
/-- What the taking leaves. -/
theorem took {c : LC} {tv nv tl : Value} {t : Tok} {r : List Tok} {N : Names} {w : World} (h : LS c tv nv (t :: r) N w) (ht : TLies w r tl) : LS c tl nv r N (((w.alloc zTok).alloc (tokB t)).setCell ⟨c.R, 1, none⟩ tl) ∧ Gr c w (((w.alloc zTok).alloc (tokB t)).setCell ⟨c.R, 1, none⟩ tl) ∧ (((w.alloc zTok).alloc (tokB t)).setCell ⟨c.R, 1, none⟩ tl).heap[w.heap.size]? = some zTok ∧ (((w.alloc zTok).alloc (tokB t)).setCell ⟨c.R, 1, none⟩ tl).heap[w.heap.size + 1]? = some (tokB t) := by
  have hlt := h.lt
  have hb := ((Below.refl w.heap.size w).alloc (Nat.le_refl _) zTok).alloc (by simp) (tokB t)
  have hg : Gr c w (((w.alloc zTok).alloc (tokB t)).setCell ⟨c.R, 1, none⟩ tl) := grown_at (below_gr hb) 1 tl
  have hR : ((w.alloc zTok).alloc (tokB t)).heap[c.R]? = some (lnO c tv nv) := (hb.block _ hlt).trans h.rd
  have h0 : ((w.alloc zTok).alloc (tokB t)).heap[w.heap.size]? = some zTok := (Below.heap_alloc _ _ _ (by simp)).trans (alloc_new _ _)
  have h1 : ((w.alloc zTok).alloc (tokB t)).heap[w.heap.size + 1]? = some (tokB t) := by
    have := alloc_new (w.alloc zTok) (tokB t)
    rw [show (w.alloc zTok).heap.size = w.heap.size + 1 by simp] at this
    exact this
  refine ⟨h.of hg ht ?_, hg, ?_, ?_⟩
  · unfold lnO at hR ⊢
    exact heap_setCell_same _ _ 1 _ _ _ hR
  · rw [heap_setCell_other _ ⟨c.R, 1, none⟩ _ tl (by show w.heap.size ≠ c.R; omega)]; exact h0
  · rw [heap_setCell_other _ ⟨c.R, 1, none⟩ _ tl (by show w.heap.size + 1 ≠ c.R; omega)]; exact h1
abbrev thr (w : World) (n : Nat) (a b d : Value) : World := ((w.setCell ⟨n, 0, none⟩ a).setCell ⟨n, 1, none⟩ b).setCell ⟨n, 2, none⟩ d
theorem thr_set {w : World} {n : Nat} {T : TypeId} {z0 z1 z2 : Value} (h : w.heap[n]? = some (.cells #[z0, z1, z2] T (0, 0))) (a b d : Value) : (thr w n a b d).heap[n]? = some (.cells #[a, b, d] T (0, 0)) :=
  heap_setCell_same _ n 2 _ _ _ (heap_setCell_same _ n 1 _ _ _ (heap_setCell_same _ n 0 _ _ _ h))
theorem thr_gr {c : LC} {w w' : World} (h : Gr c w w') {n : Nat} (hn : w.heap.size ≤ n) (a b d : Value) : Gr c w (thr w' n a b d) := grown_new (grown_new (grown_new h hn 0 a) hn 1 b) hn 2 d
theorem thr_other {w : World} {n b : Nat} (h : b ≠ n) (x y z : Value) : (thr w n x y z).heap[b]? = w.heap[b]? := by
  show (((w.setCell ⟨n, 0, none⟩ x).setCell ⟨n, 1, none⟩ y).setCell ⟨n, 2, none⟩ z).heap[b]? = _
  rw [heap_setCell_other _ ⟨n, 2, none⟩ _ z h, heap_setCell_other _ ⟨n, 1, none⟩ _ y h, heap_setCell_other _ ⟨n, 0, none⟩ _ x h]
theorem tok3 {w : World} {n : Nat} {v0 v1 v2 : Value} {T : TypeId} (h : w.heap[n]? = some (.cells #[v0, v1, v2] T (0, 0))) : (w.cell? ⟨n, 0, none⟩ = some v0 ∧ w.cell? ⟨n, 1, none⟩ = some v1 ∧ w.cell? ⟨n, 2, none⟩ = some v2) ∧ ∀ q, w.frozen? ⟨n, q, none⟩ = false :=
  ⟨⟨by rw [Lib.cell_of_heap h]; rfl, by rw [Lib.cell_of_heap h]; rfl, by rw [Lib.cell_of_heap h]; rfl⟩, fun q => Lib.frozen_of_heap h q⟩
set_option maxHeartbeats 1000000 in
set_option maxRecDepth 20000 in
theorem ltake_any (c : LC) (tv nv : Value) (t : Tok) (r : List Tok) (N : Names) (w : World) (h : LS c tv nv (t :: r) N w) : Calls Tryd.prog 28 #[.pointer (some ⟨c.R, 0, none⟩)] w fun e w' => e = .returned (agT t) ∧ (∃ tl, LS c tl nv r N w' ∧ ∀ w0, TLies w0 (t :: r) tv → TLies w0 r tl) ∧ Gr c w w' := by
  obtain ⟨du, hu1, hu2⟩ := under_tok
  obtain ⟨g, o, cap, rfl, hc, hm, x0, x1, x2, hgl, hr⟩ := h.tok.cons
  have hA := below_gr ((Below.refl w.heap.size w).alloc (Nat.le_refl _) zTok)
  have hAA := below_gr (((Below.refl w.heap.size w).alloc (Nat.le_refl _) zTok).alloc (by simp) (tokB t))
  obtain ⟨c0, c1, c2, c3, c4⟩ := (h.same hA).cells
  have d1 := (h.same hAA).cells.2.1
  have f1 := (h.same hAA).free 1
  have y0 := cell_gr hA x0
  have y1 := cell_gr hA x1
  have y2 := cell_gr hA x2
  unfold tokB at d1 f1
  unfold maxLen at hm
  have HLS := Lib.hid h
  have HGA := Lib.hid hA
  obtain ⟨tl, htl, hlies⟩ : ∃ tl, (tl = if cap = 1 then .slice (some ⟨g, o, none⟩) r.length (cap - 1) else .slice (some ⟨g, o + 3, none⟩) r.length (cap - 1)) ∧ TLies w r tl := by
    by_cases hcap : cap = 1
    · have hr0 : r = [] := List.eq_nil_of_length_eq_zero (by omega)
      subst hr0
      exact ⟨_, rfl, by rw [if_pos hcap]; exact ⟨_, _, rfl, Nat.zero_le _, by unfold maxLen; omega, Or.inl rfl⟩⟩
    · exact ⟨_, rfl, by rw [if_neg hcap]; exact hr⟩
  obtain ⟨ht1, ht2, ht3, ht4⟩ := took h hlies
  have HT1 := Lib.hid ht1
  have HT2 := Lib.hid ht2
  have HT3 := Lib.hid ht3
  have HT4 := Lib.hid ht4
  have HN := Lib.hid h.lt
  have HLI := Lib.hid hlies
  clear h hr hA hAA x0 x1 x2 hlies ht1 ht2 ht3 ht4 hgl
  rcases Nat.lt_or_ge 1 cap with hcap | hcap
  · rw [if_neg (by omega)] at htl
    subst htl
    unfold tokB at HT1 HT2 HT3 HT4
    go_enter Tryd.func28, Tryd.ntmps28
    go_upto_region 3 with fail
    obtain ⟨W, hW⟩ : ∃ W, W = ((w.alloc zTok).alloc (.cells #[.int .i64 t.k, .string ⟨t.s.toArray⟩, .int .i64 t.at_] 63)).setCell ⟨c.R, 1, none⟩ (.slice (some ⟨g, o + 3, none⟩) r.length (cap - 1)) := ⟨_, rfl⟩
    rw [← hW] at HT1 HT2 HT3 HT4
    rw [← hW]
    clear hW c0 c1 c2 c3 c4 d1 f1 y0 y1 y2
    obtain ⟨⟨z0, z1, z2⟩, gz⟩ := tok3 HT3.out
    obtain ⟨⟨y0, y1, y2⟩, gy⟩ := tok3 HT4.out
    have g0 := gz 0
    have g1 := gz 1
    have g2 := gz 2
    clear gz gy
    have hz := HT3.out
    have HE := Lib.hid (show ∃ tl, LS c tl nv r N (thr W w.heap.size (.int .i64 t.k) (.string ⟨t.s.toArray⟩) (.int .i64 t.at_)) ∧ ∀ w0, TLies w0 (t :: r) (.slice (some ⟨g, o, none⟩) (r.length + 1) cap) → TLies w0 r tl from ⟨.slice (some ⟨g, o + 3, none⟩) r.length (cap - 1), HLS.out.of (thr_gr HT2.out (Nat.le_refl _) _ _ _) HLI.out ((thr_other (by have := HN.out; omega) _ _ _).trans HT1.out.rd), fun w0 h0 => by obtain ⟨g', o', cap', e, _, _, _, _, _, _, hq⟩ := h0.cons; simp only [Value.slice.injEq, Option.some.injEq, Addr.mk.injEq, and_true] at e; obtain ⟨⟨rfl, rfl⟩, -, rfl⟩ := e; exact hq⟩)
    have HF := Lib.hid (thr_gr HT2.out (Nat.le_refl _) (.int .i64 t.k) (.string ⟨t.s.toArray⟩) (.int .i64 t.at_))
    go_wp2
    (try simp only [Exit.inBlock, Exit.then])
    refine bodyPost_ret (results_cell_row rfl _ _ w.heap.size _ _ _ du rfl (thr_set hz _ _ _) hu1 (by cases du <;> first | rfl | exact hu2) size_tok) rfl ?_
    exact ⟨rfl, HE.out, HF.out⟩
  · obtain rfl : cap = 1 := by omega
    obtain rfl : r = [] := List.eq_nil_of_length_eq_zero (by omega)
    rw [if_pos rfl] at htl
    have htl' : tl = .slice (some ⟨g, o, none⟩) 0 0 := htl
    clear htl hc
    subst htl'
    unfold tokB at HT1 HT2 HT3 HT4
    go_enter Tryd.func28, Tryd.ntmps28
    go_upto_region 3 with fail
    obtain ⟨W, hW⟩ : ∃ W, W = ((w.alloc zTok).alloc (.cells #[.int .i64 t.k, .string ⟨t.s.toArray⟩, .int .i64 t.at_] 63)).setCell ⟨c.R, 1, none⟩ (.slice (some ⟨g, o, none⟩) 0 0) := ⟨_, rfl⟩
    rw [← hW] at HT1 HT2 HT3 HT4
    rw [← hW]
    clear hW c0 c1 c2 c3 c4 d1 f1 y0 y1 y2
    obtain ⟨⟨z0, z1, z2⟩, gz⟩ := tok3 HT3.out
    obtain ⟨⟨y0, y1, y2⟩, gy⟩ := tok3 HT4.out
    have g0 := gz 0
    have g1 := gz 1
    have g2 := gz 2
    clear gz gy
    have hz := HT3.out
    have HE := Lib.hid (show ∃ tl, LS c tl nv [] N (thr W w.heap.size (.int .i64 t.k) (.string ⟨t.s.toArray⟩) (.int .i64 t.at_)) ∧ ∀ w0, TLies w0 [t] (.slice (some ⟨g, o, none⟩) (([] : List Tok).length + 1) 1) → TLies w0 [] tl from ⟨.slice (some ⟨g, o, none⟩) 0 0, HLS.out.of (thr_gr HT2.out (Nat.le_refl _) _ _ _) HLI.out ((thr_other (by have := HN.out; omega) _ _ _).trans HT1.out.rd), fun w0 _ => ⟨_, _, rfl, Nat.zero_le _, by unfold maxLen; omega, Or.inl rfl⟩⟩)
    have HF := Lib.hid (thr_gr HT2.out (Nat.le_refl _) (.int .i64 t.k) (.string ⟨t.s.toArray⟩) (.int .i64 t.at_))
    go_wp2
    (try simp only [Exit.inBlock, Exit.then])
    refine bodyPost_ret (results_cell_row rfl _ _ w.heap.size _ _ _ du rfl (thr_set hz _ _ _) hu1 (by cases du <;> first | rfl | exact hu2) size_tok) rfl ?_
    exact ⟨rfl, HE.out, HF.out⟩
end Go.Proofs.YtpekceadjcbphaaDoor.Sg

namespace Go.Proofs.YtpekceadjcbphaaDoor
open Go.RowKit Go.Maps Go.ChangeShapes

set_option maxRecDepth 20000 in
theorem psy_any (w : World) : Calls Tryd.prog 77 #[] w fun e w' => ∃ g, e = .returned (.slice (some ⟨g, 0, none⟩) 21 21) ∧ (∀ k < 21, w'.cell? ⟨g, k, none⟩ = some (.string ⟨((symsW[k]?).getD []).toArray⟩)) ∧ Below w.heap.size w w' := by
  go_enter Tryd.func77, Tryd.ntmps77
  go_wp2
  go_ret
  refine ⟨w.heap.size, rfl, fun k hk => ?_, (Below.refl _ _).alloc (Nat.le_refl _) _⟩
  rw [Lib.cell_of_heap (alloc_new w _)]
  have : ∀ q : Fin 21, (#[.string ⟨#[117, 105, 112]⟩, .string ⟨#[102, 117, 110, 101, 120, 116]⟩, .string ⟨#[115, 121, 109]⟩, .string ⟨#[116, 114, 97, 110, 115]⟩, .string ⟨#[116, 114]⟩, .string ⟨#[104, 101, 116]⟩, .string ⟨#[116, 121, 112]⟩, .string ⟨#[116, 114, 104]⟩, .string ⟨#[104, 112]⟩, .string ⟨#[104, 50, 101]⟩, .string ⟨#[101, 50, 104]⟩, .string ⟨#[114, 112]⟩, .string ⟨#[99, 112, 105]⟩, .string ⟨#[99, 115, 105, 103]⟩, .string ⟨#[99, 108, 97, 109]⟩, .string ⟨#[99, 97, 112, 112]⟩, .string ⟨#[99, 112, 97, 105, 114]⟩, .string ⟨#[99, 102, 115, 116]⟩, .string ⟨#[99, 115, 110, 100]⟩, .string ⟨#[99, 101, 113]⟩, .string ⟨#[99, 114, 101, 102, 108]⟩] : Array Value)[q.1]? = some (.string ⟨((symsW[q.1]?).getD []).toArray⟩) := by
    intro q
    match q with
    | ⟨0, _⟩ => rfl
    | ⟨1, _⟩ => rfl
    | ⟨2, _⟩ => rfl
    | ⟨3, _⟩ => rfl
    | ⟨4, _⟩ => rfl
    | ⟨5, _⟩ => rfl
    | ⟨6, _⟩ => rfl
    | ⟨7, _⟩ => rfl
    | ⟨8, _⟩ => rfl
    | ⟨9, _⟩ => rfl
    | ⟨10, _⟩ => rfl
    | ⟨11, _⟩ => rfl
    | ⟨12, _⟩ => rfl
    | ⟨13, _⟩ => rfl
    | ⟨14, _⟩ => rfl
    | ⟨15, _⟩ => rfl
    | ⟨16, _⟩ => rfl
    | ⟨17, _⟩ => rfl
    | ⟨18, _⟩ => rfl
    | ⟨19, _⟩ => rfl
    | ⟨20, _⟩ => rfl
    | ⟨k + 21, h⟩ => exact absurd h (by omega)
  exact this ⟨k, hk⟩
set_option maxHeartbeats 2000000 in
set_option maxRecDepth 20000 in
theorem psym_any (x : List UInt8) (w : World) : Calls Tryd.prog 60 #[.string ⟨x.toArray⟩] w fun e w' => e = .returned (.int .i64 (symN x)) ∧ Below w.heap.size w w' := by
  obtain ⟨L, hL⟩ : ∃ L, symsW = L := ⟨_, rfl⟩
  have hL21 : L.length = 21 := by rw [← hL]; rfl
  have HP := Lib.hid (psy_any w)
  rw [hL] at HP
  have HI := Lib.hid (show ∀ o, idxL x L = o → symN x = (match o with | some i => (i : Int) + 1 | none => 0) from fun o ho => by unfold symN; rw [hL, ho]; cases o <;> rfl)
  clear hL
  go_enter Tryd.func60, Tryd.ntmps60
  go_wp2_with fail
  refine HP.out.mono ?_
  rintro e w1 ⟨g, rfl, hrow, hb1⟩
  have HB := Lib.hid hb1
  have HT := Lib.hid hrow
  clear hb1 hrow HP
  go_wp2_with fail
  go_loop [4] (fun i => ∃ k : Nat, k ≤ 21 ∧ i = .int .i64 k ∧ Hid (idxL x L = (idxL x (L.drop k)).map (· + k))) (fun i => 21 - (intOf i).toNat)
  case atStart => exact ⟨0, Nat.zero_le _, rfl, Lib.hid (by rw [List.drop_zero]; cases idxL x L <;> rfl)⟩
  case round =>
    obtain ⟨k, hk, rfl, hno⟩ := hrel
    by_cases hlt : k < 21
    · have hc := HT.out k hlt
      have hkl : k < L.length := by omega
      have hdr : L.drop k = L[k] :: L.drop (k + 1) := List.drop_eq_getElem_cons hkl
      have hcc : w1.cell? ⟨g, k, none⟩ = some (.string ⟨(L[k]).toArray⟩) := by rw [hc]; simp only [List.getElem?_eq_getElem hkl, Option.getD_some]
      obtain ⟨y, hy⟩ : ∃ y, L[k] = y := ⟨_, rfl⟩
      rw [hy] at hcc hdr
      have HD := Lib.hid hdr
      clear hc hdr hy
      cases hyx : (y == x)
      · go_wp2
        go_round
        case rel =>
          refine ⟨k + 1, by omega, by go_num, Lib.hid ?_⟩
          rw [hno.out, HD.out]
          simp only [idxL]
          rw [if_neg (by simpa using hyx)]
          cases idxL x (L.drop (k + 1)) <;> simp; omega
        case measure => simp [intOf]; omega
      · go_wp2
        go_ret
        refine ⟨?_, HB.out⟩
        have h1 : idxL x L = some k := by
          rw [hno.out, HD.out]
          simp only [idxL]
          rw [if_pos (by simpa using hyx)]
          simp
        rw [HI.out _ h1]
        (try rfl)
    · obtain rfl : k = 21 := by omega
      go_wp2
      go_ret
      refine ⟨?_, HB.out⟩
      have h1 : idxL x L = none := by rw [hno.out, List.drop_eq_nil_of_le (by omega)]; rfl
      rw [HI.out _ h1]
      (try rfl)
end Go.Proofs.YtpekceadjcbphaaDoor

namespace Go.Proofs.YtpekceadjcbphaaDoor.Rt
open Go.RowKit
open Dv (XS kindAt wordAt placeAt wantX rrO rrX badV PTok hltD typeD)

def markedL : List (List UInt8) := (headsW.drop 1).take 12
def plainL : List (List UInt8) := headsW.drop 13
theorem RS.drew {c : PR} {nv : Value} {s : XS} {w : World} (h : RS c nv s w) : RS c nv s w.drew := h.drewN 1
theorem drew_gr (w : World) : w.grownBy w.drew none := drewN_gr w 1
/-- A row of words. -/
def WRow (w : World) (g : Nat) (l : List (List UInt8)) : Prop := ∀ k (h : k < l.length), w.cell? ⟨g, k, none⟩ = some (strV (l[k]'h))
theorem WRow.same {w w' : World} {g : Nat} {l : List (List UInt8)} (h : WRow w g l) (hg : w.grownBy w' none) : WRow w' g l := fun k hk => cell_gr hg (h k hk)
theorem wrow_lit (w : World) (l : List (List UInt8)) : WRow (w.alloc (.cells (l.map strV).toArray 9)) w.heap.size l := fun k hk => by
  rw [Lib.cell_of_heap (alloc_new w _)]
  simp [hk]
set_option maxRecDepth 20000 in
theorem pmk_any (w : World) : Calls Tryd.prog 58 #[] w fun e w' => ∃ g, e = .returned (.slice (some ⟨g, 0, none⟩) 12 12) ∧ WRow w' g markedL ∧ w.grownBy w' none := by
  go_enter Tryd.func58, Tryd.ntmps58
  go_wp2
  go_ret
  exact ⟨w.heap.size, rfl, wrow_lit w markedL, below_gr ((Below.refl _ _).alloc (Nat.le_refl _) _)⟩
set_option maxRecDepth 20000 in
theorem ppl_any (w : World) : Calls Tryd.prog 59 #[] w fun e w' => ∃ g, e = .returned (.slice (some ⟨g, 0, none⟩) 11 11) ∧ WRow w' g plainL ∧ w.grownBy w' none := by
  go_enter Tryd.func59, Tryd.ntmps59
  go_wp2
  go_ret
  exact ⟨w.heap.size, rfl, wrow_lit w plainL, below_gr ((Below.refl _ _).alloc (Nat.le_refl _) _)⟩
/-- The first that fits. -/
def findQ (p : List UInt8 → Nat → Bool) : List (List UInt8) → Nat → Option Nat
  | [], _ => none
  | y :: r, k => if p y k = true then some k else findQ p r (k + 1)
structure FindI (p : List UInt8 → Nat → Bool) (l : List (List UInt8)) (k : Nat) : Prop where
  eq : findQ p l 0 = findQ p (l.drop k) k
theorem FindI.start (p : List UInt8 → Nat → Bool) (l : List (List UInt8)) : FindI p l 0 := ⟨by rw [List.drop_zero]⟩
theorem FindI.next {p : List UInt8 → Nat → Bool} {l : List (List UInt8)} {k : Nat} {y : List UInt8} (h : FindI p l k) (hd : l.drop k = y :: l.drop (k + 1)) (hp : p y k = false) : FindI p l (k + 1) := ⟨by rw [h.eq, hd]; simp [findQ, hp]⟩
theorem FindI.found {p : List UInt8 → Nat → Bool} {l : List (List UInt8)} {k : Nat} {y : List UInt8} (h : FindI p l k) (hd : l.drop k = y :: l.drop (k + 1)) (hp : p y k = true) : findQ p l 0 = some k := by rw [h.eq, hd]; simp [findQ, hp]
theorem FindI.none {p : List UInt8 → Nat → Bool} {l : List (List UInt8)} {k : Nat} (h : FindI p l k) (hk : l.length ≤ k) : findQ p l 0 = Option.none := by rw [h.eq, List.drop_eq_nil_of_le hk]; rfl
def pM (so : Int) (x y : List UInt8) (k : Nat) : Bool := (y == x) && (so != 2 || k == 0)
def pP (so : Int) (x y : List UInt8) (_ : Nat) : Bool := (y == x) && so != 1
def listV (so : Int) (x : List UInt8) : Int := if headN x = 0 ∨ (sortN (headN x) ≠ 0 ∧ so ≠ 0 ∧ sortN (headN x) ≠ so) then 0 else headN x
def listW (so : Int) (x : List UInt8) : Int := match findQ (pM so x) markedL 0 with
  | some i => (i : Int) + 1
  | none => match findQ (pP so x) plainL 0 with
    | some i => 13 + (i : Int)
    | none => 0
theorem findQ_none {p : List UInt8 → Nat → Bool} : ∀ {l : List (List UInt8)} {k : Nat}, (∀ y ∈ l, ∀ q, p y q = false) → findQ p l k = none
  | [], _, _ => rfl
  | y :: r, k, h => by
    unfold findQ
    rw [if_neg (by rw [h y (List.mem_cons_self ..) k]; simp)]
    exact findQ_none fun z hz => h z (List.mem_cons_of_mem _ hz)
theorem idxL_none {x : List UInt8} : ∀ {l : List (List UInt8)}, x ∉ l → idxL x l = none
  | [], _ => rfl
  | y :: r, h => by
    unfold idxL
    rw [if_neg (fun e => h (by rw [e]; exact List.mem_cons_self ..)), idxL_none (fun e => h (List.mem_cons_of_mem _ e))]
    rfl
theorem list_known : ∀ x ∈ headsW, x ≠ [] → listV 0 x = listW 0 x ∧ listV 1 x = listW 1 x ∧ listV 2 x = listW 2 x := by decide
theorem listV_eq {so : Int} (hso : so = 0 ∨ so = 1 ∨ so = 2) {x : List UInt8} (hx : x ≠ []) : listV so x = listW so x := by
  by_cases h : x ∈ headsW
  · obtain ⟨h0, h1, h2⟩ := list_known x h hx
    rcases hso with rfl | rfl | rfl
    · exact h0
    · exact h1
    · exact h2
  · have hm : ∀ l : List (List UInt8), (∀ y ∈ l, y ∈ headsW) → ∀ y ∈ l, (y == x) = false := fun l hl y hy => by
      rw [beq_eq_false_iff_ne]
      rintro rfl
      exact h (hl y hy)
    have h1 : headN x = 0 := by
      unfold headN
      rw [if_neg (fun e => h (by rw [e]; decide)), idxL_none (fun e => h (List.mem_of_mem_drop e))]
    unfold listV listW
    rw [if_pos (Or.inl h1), findQ_none (fun y hy q => by unfold pM; rw [hm markedL (fun z hz => List.mem_of_mem_drop (List.mem_of_mem_take hz)) y hy]; rfl), findQ_none (fun y hy q => by unfold pP; rw [hm plainL (fun z hz => List.mem_of_mem_drop hz) y hy]; rfl)]
theorem listW_marked {so : Int} {x : List UInt8} {i : Nat} (h : findQ (pM so x) markedL 0 = some i) : listW so x = (i : Int) + 1 := by unfold listW; rw [h]
theorem listW_plain {so : Int} {x : List UInt8} {i : Nat} (h : findQ (pM so x) markedL 0 = none) (h2 : findQ (pP so x) plainL 0 = some i) : listW so x = 13 + (i : Int) := by unfold listW; rw [h, h2]
theorem listW_none {so : Int} {x : List UInt8} (h : findQ (pM so x) markedL 0 = none) (h2 : findQ (pP so x) plainL 0 = none) : listW so x = 0 := by unfold listW; rw [h, h2]
theorem word_ne {L : List Tok} (h : ∀ t ∈ L, t.k = 3 → t.s ≠ []) {p : Nat} (hk : kindAt L p = 3) : wordAt L p ≠ [] := by
  rcases drop_kind (L := L) (p := p) with ⟨-, h1, -⟩ | ⟨t, r, h0, h1, h2, -, -⟩
  · omega
  · rw [h2]
    exact h t (List.mem_of_mem_drop (by rw [h0]; exact List.mem_cons_self ..)) (by omega)
def ol7_0 : Oper := { dst := some 18, op := Go.Op.move (Go.Operand.tmp 5), type := 22, pos := "ref.go:169", after := #[], guard := none }
def ol7_1 : Oper := { dst := some 19, op := Go.Op.move (Go.Operand.tmp 6), type := 3, pos := "ref.go:169", after := #[], guard := none }
def ol7_2 : Oper := { dst := some 20, op := Go.Op.indexAddr 22 (Go.Operand.tmp 18) (Go.Operand.tmp 19), type := 0, pos := "ref.go:169", after := #[{ on := 0, ground := Go.Ground.data }, { on := 1, ground := Go.Ground.data }], guard := none }
def ol7_3 : Oper := { dst := some 21, op := Go.Op.load 9 (Go.Operand.tmp 20), type := 9, pos := "ref.go:169", after := #[{ on := 2, ground := Go.Ground.data }], guard := none }
def ol7_4 : Oper := { dst := some 22, op := Go.Op.move (Go.Operand.tmp 0), type := 50, pos := "ref.go:169", after := #[], guard := none }
def ol7_5 : Oper := { dst := some 23, op := Go.Op.call { callee := Go.Callee.value (Go.Operand.func 43), args := #[Go.Operand.tmp 22], argTypes := #[50] }, type := 9, pos := "ref.go:169", after := #[{ on := 4, ground := Go.Ground.data }], guard := none }
def ol7_6 : Oper := { dst := some 24, op := Go.Op.binOp Go.BinOp.eql 9 (Go.Operand.tmp 21) (Go.Operand.tmp 23) 9, type := 4, pos := "ref.go:169", after := #[{ on := 3, ground := Go.Ground.data }, { on := 5, ground := Go.Ground.data }], guard := none }
def ol7_7 : Oper := { dst := some 25, op := Go.Op.move (Go.Operand.tmp 24), type := 4, pos := "ref.go:169", after := #[{ on := 6, ground := Go.Ground.data }, { on := 5, ground := Go.Ground.chain }], guard := none }
def ol7_8 : Oper := { dst := some 26, op := Go.Op.move (Go.Operand.tmp 1), type := 3, pos := "ref.go:169", after := #[{ on := 7, ground := Go.Ground.guard }], guard := some (7, true) }
def ol7_9 : Oper := { dst := some 27, op := Go.Op.binOp Go.BinOp.neq 3 (Go.Operand.tmp 26) (Go.Operand.const (Go.Value.int Go.IntKind.i64 2)) 3, type := 4, pos := "ref.go:169", after := #[{ on := 8, ground := Go.Ground.data }, { on := 7, ground := Go.Ground.guard }], guard := some (7, true) }
def ol7_10 : Oper := { dst := some 28, op := Go.Op.move (Go.Operand.tmp 27), type := 4, pos := "ref.go:169", after := #[{ on := 9, ground := Go.Ground.data }, { on := 7, ground := Go.Ground.chain }, { on := 7, ground := Go.Ground.guard }], guard := some (7, true) }
def ol7_11 : Oper := { dst := some 29, op := Go.Op.move (Go.Operand.tmp 6), type := 3, pos := "ref.go:169", after := #[{ on := 10, ground := Go.Ground.guard }], guard := some (10, false) }
def ol7_12 : Oper := { dst := some 30, op := Go.Op.binOp Go.BinOp.eql 3 (Go.Operand.tmp 29) (Go.Operand.const (Go.Value.int Go.IntKind.i64 0)) 3, type := 4, pos := "ref.go:169", after := #[{ on := 11, ground := Go.Ground.data }, { on := 10, ground := Go.Ground.guard }], guard := some (10, false) }
def ol7_13 : Oper := { dst := some 31, op := Go.Op.pick (Go.Operand.tmp 28) (Go.Operand.const (Go.Value.bool true)) (Go.Operand.tmp 30), type := 4, pos := "ref.go:169", after := #[{ on := 10, ground := Go.Ground.data }, { on := 12, ground := Go.Ground.data }, { on := 7, ground := Go.Ground.guard }], guard := some (7, true) }
def ol7_14 : Oper := { dst := some 32, op := Go.Op.pick (Go.Operand.tmp 25) (Go.Operand.tmp 31) (Go.Operand.const (Go.Value.bool false)), type := 4, pos := "ref.go:169", after := #[{ on := 7, ground := Go.Ground.data }, { on := 13, ground := Go.Ground.data }], guard := none }
def ol13_0 : Oper := { dst := some 42, op := Go.Op.move (Go.Operand.tmp 5), type := 22, pos := "ref.go:175", after := #[], guard := none }
def ol13_1 : Oper := { dst := some 43, op := Go.Op.move (Go.Operand.tmp 7), type := 3, pos := "ref.go:175", after := #[], guard := none }
def ol13_2 : Oper := { dst := some 44, op := Go.Op.indexAddr 22 (Go.Operand.tmp 42) (Go.Operand.tmp 43), type := 0, pos := "ref.go:175", after := #[{ on := 0, ground := Go.Ground.data }, { on := 1, ground := Go.Ground.data }], guard := none }
def ol13_3 : Oper := { dst := some 45, op := Go.Op.load 9 (Go.Operand.tmp 44), type := 9, pos := "ref.go:175", after := #[{ on := 2, ground := Go.Ground.data }], guard := none }
def ol13_4 : Oper := { dst := some 46, op := Go.Op.move (Go.Operand.tmp 0), type := 50, pos := "ref.go:175", after := #[], guard := none }
def ol13_5 : Oper := { dst := some 47, op := Go.Op.call { callee := Go.Callee.value (Go.Operand.func 43), args := #[Go.Operand.tmp 46], argTypes := #[50] }, type := 9, pos := "ref.go:175", after := #[{ on := 4, ground := Go.Ground.data }], guard := none }
def ol13_6 : Oper := { dst := some 48, op := Go.Op.binOp Go.BinOp.eql 9 (Go.Operand.tmp 45) (Go.Operand.tmp 47) 9, type := 4, pos := "ref.go:175", after := #[{ on := 3, ground := Go.Ground.data }, { on := 5, ground := Go.Ground.data }], guard := none }
def ol13_7 : Oper := { dst := some 49, op := Go.Op.move (Go.Operand.tmp 48), type := 4, pos := "ref.go:175", after := #[{ on := 6, ground := Go.Ground.data }, { on := 5, ground := Go.Ground.chain }], guard := none }
def ol13_8 : Oper := { dst := some 50, op := Go.Op.move (Go.Operand.tmp 1), type := 3, pos := "ref.go:175", after := #[{ on := 7, ground := Go.Ground.guard }], guard := some (7, true) }
def ol13_9 : Oper := { dst := some 51, op := Go.Op.binOp Go.BinOp.neq 3 (Go.Operand.tmp 50) (Go.Operand.const (Go.Value.int Go.IntKind.i64 1)) 3, type := 4, pos := "ref.go:175", after := #[{ on := 8, ground := Go.Ground.data }, { on := 7, ground := Go.Ground.guard }], guard := some (7, true) }
def ol13_10 : Oper := { dst := some 52, op := Go.Op.pick (Go.Operand.tmp 49) (Go.Operand.tmp 51) (Go.Operand.const (Go.Value.bool false)), type := 4, pos := "ref.go:175", after := #[{ on := 7, ground := Go.Ground.data }, { on := 9, ground := Go.Ground.data }], guard := none }
set_option maxHeartbeats 4000000 in
set_option maxRecDepth 20000 in
theorem rlist_any (c : PR) (nv : Value) (s : XS) (so : Int) (hso : so = 0 ∨ so = 1 ∨ so = 2) (w : World) (h : RS c nv s w) (hne : ∀ t ∈ c.L, t.k = 3 → t.s ≠ []) : Calls Tryd.prog 45 #[.pointer (some ⟨c.R, 0, none⟩), .int .i64 so] w fun e w' => e = .returned (.int .i64 (listK c.L so s)) ∧ RS c nv s w' ∧ w.grownBy w' none := by
  have HS0 := Lib.hid h
  by_cases hk : kindAt c.L s.p = 3
  case neg =>
    have HX := Lib.hid (show listK c.L so s = 0 from if_neg (fun e => hk e.1))
    have hki : ¬ ((kindAt c.L s.p : Nat) : Int) = 3 := by omega
    have hkb : (((kindAt c.L s.p : Nat) : Int) != 3) = true := by simpa using hki
    clear h
    go_enter Tryd.func45, Tryd.ntmps45
    go_wp2_with fail
    refine HS0.out.kind.mono ?_
    rintro e w1 ⟨rfl, hs, hg⟩
    have HS1 := Lib.hid hs
    have HG1 := Lib.hid hg
    clear hs hg
    go_wp2
    go_ret
    exact ⟨by rw [HX.out]; rfl, HS1.out, HG1.out⟩
  have hki : ((kindAt c.L s.p : Nat) : Int) = 3 := by omega
  have hwn := word_ne hne hk
  obtain ⟨wd, hwd⟩ : ∃ wd, wordAt c.L s.p = wd := ⟨_, rfl⟩
  rw [hwd] at hwn
  have HX := Lib.hid (show listK c.L so s = listW so wd by
    rw [← listV_eq hso hwn]
    unfold listK listV
    rw [hwd]
    by_cases hc : headN wd = 0 ∨ (sortN (headN wd) ≠ 0 ∧ so ≠ 0 ∧ sortN (headN wd) ≠ so)
    · rw [if_pos hc, if_neg (fun e => e.2 hc)]
    · rw [if_neg hc, if_pos ⟨hk, hc⟩])
  clear h hwn hk
  go_enter Tryd.func45, Tryd.ntmps45
  go_wp2_with fail
  refine HS0.out.kind.mono ?_
  rintro e w1 ⟨rfl, hs, hg⟩
  rw [hki]
  have HS1 := Lib.hid hs
  have HG1 := Lib.hid hg
  have HMK := Lib.hid (pmk_any w1)
  clear hs hg hki
  go_wp2_with fail
  refine HMK.out.mono ?_
  rintro e w2 ⟨g, rfl, hrow, hg2⟩
  have HSM := Lib.hid (HS1.out.same hg2)
  have HGM := Lib.hid (HG1.out.trans hg2)
  have HRM := Lib.hid hrow
  clear hrow hg2 HMK
  go_wp2_with fail
  go_loopw [6] (fun i wr => ∃ k : Nat, k ≤ 12 ∧ i = .int .i64 k ∧ Hid (FindI (pM so wd) markedL k) ∧ Hid (RS c nv s wr) ∧ Hid (w.grownBy wr none) ∧ Hid (WRow wr g markedL)) (fun i _ => 12 - (intOf i).toNat)
  case atStart => exact ⟨0, Nat.zero_le _, rfl, Lib.hid (FindI.start _ _), HSM, HGM, HRM⟩
  case round =>
    obtain ⟨k, hk, rfl, HNO, HS, HG, HR⟩ := hrel
    clear HSM HGM HRM
    by_cases hlt : k < 12
    · have hkl : k < (markedL).length := hlt
      have hc := HR.out k hkl
      have HD := Lib.hid (List.drop_eq_getElem_cons hkl)
      obtain ⟨y, hy⟩ : ∃ y, (markedL)[k]'hkl = y := ⟨_, rfl⟩
      rw [hy] at hc HD
      unfold strV at hc
      clear hy
      have HWD := Lib.hid (HS.out.drew.word)
      cases hyx : (y == wd)
      · have HPY := Lib.hid (show pM so wd y k = false by unfold pM; rw [hyx]; rfl)
        clear HS
        (try clear hk0)
        (try clear hs2)
        (try clear hs1)
        go_wp2_with fail
        refine wp_region_held_drew (S := fun w' => w'.cell? ⟨g, k, none⟩ = some (.string ⟨y.toArray⟩)) (by kernel_rfl) ?_ (fun hHeld => ?_)
        · (try dsimp only)
          (first | exact hc | exact HCN.out)
        refine take_at 0 18 ol7_0 (v := ?_) (Or.inl ⟨by rfl, ?_⟩) ?_
        rotate_left 1
        · ((intro w hSw; (try dsimp only at hSw); unfold ol7_0; go_simp) <;> with_reducible rfl)
        (try simp only [Act.put, List.setIfInBounds_toArray, List.set_cons_zero, List.set_cons_succ])
        refine take_at 1 19 ol7_1 (v := ?_) (Or.inl ⟨by rfl, ?_⟩) ?_
        rotate_left 1
        · ((intro w hSw; (try dsimp only at hSw); unfold ol7_1; go_simp) <;> with_reducible rfl)
        (try simp only [Act.put, List.setIfInBounds_toArray, List.set_cons_zero, List.set_cons_succ])
        refine take_at 2 20 ol7_2 (v := ?_) (Or.inl ⟨by rfl, ?_⟩) ?_
        rotate_left 1
        · ((intro w hSw; (try dsimp only at hSw); unfold ol7_2; go_simp) <;> with_reducible rfl)
        (try simp only [Act.put, List.setIfInBounds_toArray, List.set_cons_zero, List.set_cons_succ])
        refine take_at 3 21 ol7_3 (v := ?_) (Or.inl ⟨by rfl, ?_⟩) ?_
        rotate_left 1
        · ((intro w hSw; (try dsimp only at hSw); unfold ol7_3; go_simp) <;> with_reducible rfl)
        (try simp only [Act.put, List.setIfInBounds_toArray, List.set_cons_zero, List.set_cons_succ])
        refine take_at 4 22 ol7_4 (v := ?_) (Or.inl ⟨by rfl, ?_⟩) ?_
        rotate_left 1
        · ((intro w hSw; (try dsimp only at hSw); unfold ol7_4; go_simp) <;> with_reducible rfl)
        (try simp only [Act.put, List.setIfInBounds_toArray, List.set_cons_zero, List.set_cons_succ])
        refine wpAnyH_ready (rs := [5]) (by kernel_rfl) (by simp) ?_
        refine AllReadyH.cons (o := ol7_5) rfl (fun K hK => ?_) ?_
        · unfold ol7_5
          go_simp
          (go_at_call 43; with_reducible refine Calls.mono HWD.out ?_)
          rintro e wn ⟨rfl, hs2, hg2⟩
          rw [hwd]
          have HSN := Lib.hid hs2
          have HGN := Lib.hid ((HG.out.trans (drew_gr wr)).trans hg2)
          have HCN := Lib.hid (cell_gr ((drew_gr wr).trans hg2) hc)
          have HRN := Lib.hid (HR.out.same ((drew_gr wr).trans hg2))
          clear hs2 hg2
          refine hK.out _ _ ?_ (fun hHeld => ?_)
          · (try dsimp only)
            (first | exact hc | exact HCN.out)
          clear hK K
          (try simp only [Act.put, List.setIfInBounds_toArray, List.set_cons_zero, List.set_cons_succ])
          refine take_at 6 24 ol7_6 (v := ?_) (Or.inl ⟨by rfl, ?_⟩) ?_
          rotate_left 1
          · ((intro w hSw; (try dsimp only at hSw); unfold ol7_6; go_simp) <;> with_reducible rfl)
          (try simp only [Act.put, List.setIfInBounds_toArray, List.set_cons_zero, List.set_cons_succ])
          refine take_at 7 25 ol7_7 (v := ?_) (Or.inl ⟨by rfl, ?_⟩) ?_
          rotate_left 1
          · ((intro w hSw; (try dsimp only at hSw); unfold ol7_7; go_simp) <;> with_reducible rfl)
          (try simp only [Act.put, List.setIfInBounds_toArray, List.set_cons_zero, List.set_cons_succ])
          refine take_at 8 26 ol7_8 (v := undef) (Or.inr ⟨by rfl, rfl⟩) ?_
          (try simp only [Act.put, List.setIfInBounds_toArray, List.set_cons_zero, List.set_cons_succ])
          refine take_at 9 27 ol7_9 (v := undef) (Or.inr ⟨by rfl, rfl⟩) ?_
          (try simp only [Act.put, List.setIfInBounds_toArray, List.set_cons_zero, List.set_cons_succ])
          refine take_at 10 28 ol7_10 (v := undef) (Or.inr ⟨by rfl, rfl⟩) ?_
          (try simp only [Act.put, List.setIfInBounds_toArray, List.set_cons_zero, List.set_cons_succ])
          refine take_at 11 29 ol7_11 (v := undef) (Or.inr ⟨by rfl, rfl⟩) ?_
          (try simp only [Act.put, List.setIfInBounds_toArray, List.set_cons_zero, List.set_cons_succ])
          refine take_at 12 30 ol7_12 (v := undef) (Or.inr ⟨by rfl, rfl⟩) ?_
          (try simp only [Act.put, List.setIfInBounds_toArray, List.set_cons_zero, List.set_cons_succ])
          refine take_at 13 31 ol7_13 (v := undef) (Or.inr ⟨by rfl, rfl⟩) ?_
          (try simp only [Act.put, List.setIfInBounds_toArray, List.set_cons_zero, List.set_cons_succ])
          refine take_at 14 32 ol7_14 (v := ?_) (Or.inl ⟨by rfl, ?_⟩) ?_
          rotate_left 1
          · ((intro w hSw; (try dsimp only at hSw); unfold ol7_14; go_simp) <;> with_reducible rfl)
          (try simp only [Act.put, List.setIfInBounds_toArray, List.set_cons_zero, List.set_cons_succ])
          refine wpAnyH_done (by kernel_rfl) ?_ _
          clear hHeld
          go_wp2
          go_round
          case rel => exact ⟨k + 1, by omega, by go_num, HNO.out.next HD.out HPY.out, HSN.out, HGN.out, HRN.out⟩
          case measure => simp [intOf]; omega
        exact AllReadyH.nil

      · by_cases hs2 : so = 2
        · have hsb : (so != 2) = false := by simp [hs2]
          by_cases hk0 : k = 0
          · have hkb : ((k : Int) == 0) = true := by simp [hk0]
            have HPY := Lib.hid (show pM so wd y k = true by unfold pM; rw [hyx, hsb]; simp [hk0])
            clear HS
            (try clear hk0)
            (try clear hs2)
            (try clear hs1)
            go_wp2_with fail
            refine wp_region_held_drew (S := fun w' => w'.cell? ⟨g, k, none⟩ = some (.string ⟨y.toArray⟩)) (by kernel_rfl) ?_ (fun hHeld => ?_)
            · (try dsimp only)
              (first | exact hc | exact HCN.out)
            refine take_at 0 18 ol7_0 (v := ?_) (Or.inl ⟨by rfl, ?_⟩) ?_
            rotate_left 1
            · ((intro w hSw; (try dsimp only at hSw); unfold ol7_0; go_simp) <;> with_reducible rfl)
            (try simp only [Act.put, List.setIfInBounds_toArray, List.set_cons_zero, List.set_cons_succ])
            refine take_at 1 19 ol7_1 (v := ?_) (Or.inl ⟨by rfl, ?_⟩) ?_
            rotate_left 1
            · ((intro w hSw; (try dsimp only at hSw); unfold ol7_1; go_simp) <;> with_reducible rfl)
            (try simp only [Act.put, List.setIfInBounds_toArray, List.set_cons_zero, List.set_cons_succ])
            refine take_at 2 20 ol7_2 (v := ?_) (Or.inl ⟨by rfl, ?_⟩) ?_
            rotate_left 1
            · ((intro w hSw; (try dsimp only at hSw); unfold ol7_2; go_simp) <;> with_reducible rfl)
            (try simp only [Act.put, List.setIfInBounds_toArray, List.set_cons_zero, List.set_cons_succ])
            refine take_at 3 21 ol7_3 (v := ?_) (Or.inl ⟨by rfl, ?_⟩) ?_
            rotate_left 1
            · ((intro w hSw; (try dsimp only at hSw); unfold ol7_3; go_simp) <;> with_reducible rfl)
            (try simp only [Act.put, List.setIfInBounds_toArray, List.set_cons_zero, List.set_cons_succ])
            refine take_at 4 22 ol7_4 (v := ?_) (Or.inl ⟨by rfl, ?_⟩) ?_
            rotate_left 1
            · ((intro w hSw; (try dsimp only at hSw); unfold ol7_4; go_simp) <;> with_reducible rfl)
            (try simp only [Act.put, List.setIfInBounds_toArray, List.set_cons_zero, List.set_cons_succ])
            refine wpAnyH_ready (rs := [5]) (by kernel_rfl) (by simp) ?_
            refine AllReadyH.cons (o := ol7_5) rfl (fun K hK => ?_) ?_
            · unfold ol7_5
              go_simp
              (go_at_call 43; with_reducible refine Calls.mono HWD.out ?_)
              rintro e wn ⟨rfl, hs2, hg2⟩
              rw [hwd]
              have HSN := Lib.hid hs2
              have HGN := Lib.hid ((HG.out.trans (drew_gr wr)).trans hg2)
              have HCN := Lib.hid (cell_gr ((drew_gr wr).trans hg2) hc)
              have HRN := Lib.hid (HR.out.same ((drew_gr wr).trans hg2))
              clear hs2 hg2
              refine hK.out _ _ ?_ (fun hHeld => ?_)
              · (try dsimp only)
                (first | exact hc | exact HCN.out)
              clear hK K
              (try simp only [Act.put, List.setIfInBounds_toArray, List.set_cons_zero, List.set_cons_succ])
              refine take_at 6 24 ol7_6 (v := ?_) (Or.inl ⟨by rfl, ?_⟩) ?_
              rotate_left 1
              · ((intro w hSw; (try dsimp only at hSw); unfold ol7_6; go_simp) <;> with_reducible rfl)
              (try simp only [Act.put, List.setIfInBounds_toArray, List.set_cons_zero, List.set_cons_succ])
              refine take_at 7 25 ol7_7 (v := ?_) (Or.inl ⟨by rfl, ?_⟩) ?_
              rotate_left 1
              · ((intro w hSw; (try dsimp only at hSw); unfold ol7_7; go_simp) <;> with_reducible rfl)
              (try simp only [Act.put, List.setIfInBounds_toArray, List.set_cons_zero, List.set_cons_succ])
              refine take_at 8 26 ol7_8 (v := ?_) (Or.inl ⟨by rfl, ?_⟩) ?_
              rotate_left 1
              · ((intro w hSw; (try dsimp only at hSw); unfold ol7_8; go_simp) <;> with_reducible rfl)
              (try simp only [Act.put, List.setIfInBounds_toArray, List.set_cons_zero, List.set_cons_succ])
              refine take_at 9 27 ol7_9 (v := ?_) (Or.inl ⟨by rfl, ?_⟩) ?_
              rotate_left 1
              · ((intro w hSw; (try dsimp only at hSw); unfold ol7_9; go_simp) <;> with_reducible rfl)
              (try simp only [Act.put, List.setIfInBounds_toArray, List.set_cons_zero, List.set_cons_succ])
              refine take_at 10 28 ol7_10 (v := ?_) (Or.inl ⟨by rfl, ?_⟩) ?_
              rotate_left 1
              · ((intro w hSw; (try dsimp only at hSw); unfold ol7_10; go_simp) <;> with_reducible rfl)
              (try simp only [Act.put, List.setIfInBounds_toArray, List.set_cons_zero, List.set_cons_succ])
              refine take_at 11 29 ol7_11 (v := ?_) (Or.inl ⟨by rfl, ?_⟩) ?_
              rotate_left 1
              · ((intro w hSw; (try dsimp only at hSw); unfold ol7_11; go_simp) <;> with_reducible rfl)
              (try simp only [Act.put, List.setIfInBounds_toArray, List.set_cons_zero, List.set_cons_succ])
              refine take_at 12 30 ol7_12 (v := ?_) (Or.inl ⟨by rfl, ?_⟩) ?_
              rotate_left 1
              · ((intro w hSw; (try dsimp only at hSw); unfold ol7_12; go_simp) <;> with_reducible rfl)
              (try simp only [Act.put, List.setIfInBounds_toArray, List.set_cons_zero, List.set_cons_succ])
              refine take_at 13 31 ol7_13 (v := ?_) (Or.inl ⟨by rfl, ?_⟩) ?_
              rotate_left 1
              · ((intro w hSw; (try dsimp only at hSw); unfold ol7_13; go_simp) <;> with_reducible rfl)
              (try simp only [Act.put, List.setIfInBounds_toArray, List.set_cons_zero, List.set_cons_succ])
              refine take_at 14 32 ol7_14 (v := ?_) (Or.inl ⟨by rfl, ?_⟩) ?_
              rotate_left 1
              · ((intro w hSw; (try dsimp only at hSw); unfold ol7_14; go_simp) <;> with_reducible rfl)
              (try simp only [Act.put, List.setIfInBounds_toArray, List.set_cons_zero, List.set_cons_succ])
              refine wpAnyH_done (by kernel_rfl) ?_ _
              clear hHeld
              go_wp2
              go_ret
              exact ⟨by rw [HX.out]; exact congrArg (fun z => Ending.returned (.int .i64 z)) (listW_marked (HNO.out.found HD.out HPY.out)).symm, HSN.out, HGN.out⟩
            exact AllReadyH.nil

          · have hkb : ((k : Int) == 0) = false := by simp [hk0]
            have HPY := Lib.hid (show pM so wd y k = false by unfold pM; rw [hyx, hsb]; simp [hk0])
            clear HS
            (try clear hk0)
            (try clear hs2)
            (try clear hs1)
            go_wp2_with fail
            refine wp_region_held_drew (S := fun w' => w'.cell? ⟨g, k, none⟩ = some (.string ⟨y.toArray⟩)) (by kernel_rfl) ?_ (fun hHeld => ?_)
            · (try dsimp only)
              (first | exact hc | exact HCN.out)
            refine take_at 0 18 ol7_0 (v := ?_) (Or.inl ⟨by rfl, ?_⟩) ?_
            rotate_left 1
            · ((intro w hSw; (try dsimp only at hSw); unfold ol7_0; go_simp) <;> with_reducible rfl)
            (try simp only [Act.put, List.setIfInBounds_toArray, List.set_cons_zero, List.set_cons_succ])
            refine take_at 1 19 ol7_1 (v := ?_) (Or.inl ⟨by rfl, ?_⟩) ?_
            rotate_left 1
            · ((intro w hSw; (try dsimp only at hSw); unfold ol7_1; go_simp) <;> with_reducible rfl)
            (try simp only [Act.put, List.setIfInBounds_toArray, List.set_cons_zero, List.set_cons_succ])
            refine take_at 2 20 ol7_2 (v := ?_) (Or.inl ⟨by rfl, ?_⟩) ?_
            rotate_left 1
            · ((intro w hSw; (try dsimp only at hSw); unfold ol7_2; go_simp) <;> with_reducible rfl)
            (try simp only [Act.put, List.setIfInBounds_toArray, List.set_cons_zero, List.set_cons_succ])
            refine take_at 3 21 ol7_3 (v := ?_) (Or.inl ⟨by rfl, ?_⟩) ?_
            rotate_left 1
            · ((intro w hSw; (try dsimp only at hSw); unfold ol7_3; go_simp) <;> with_reducible rfl)
            (try simp only [Act.put, List.setIfInBounds_toArray, List.set_cons_zero, List.set_cons_succ])
            refine take_at 4 22 ol7_4 (v := ?_) (Or.inl ⟨by rfl, ?_⟩) ?_
            rotate_left 1
            · ((intro w hSw; (try dsimp only at hSw); unfold ol7_4; go_simp) <;> with_reducible rfl)
            (try simp only [Act.put, List.setIfInBounds_toArray, List.set_cons_zero, List.set_cons_succ])
            refine wpAnyH_ready (rs := [5]) (by kernel_rfl) (by simp) ?_
            refine AllReadyH.cons (o := ol7_5) rfl (fun K hK => ?_) ?_
            · unfold ol7_5
              go_simp
              (go_at_call 43; with_reducible refine Calls.mono HWD.out ?_)
              rintro e wn ⟨rfl, hs2, hg2⟩
              rw [hwd]
              have HSN := Lib.hid hs2
              have HGN := Lib.hid ((HG.out.trans (drew_gr wr)).trans hg2)
              have HCN := Lib.hid (cell_gr ((drew_gr wr).trans hg2) hc)
              have HRN := Lib.hid (HR.out.same ((drew_gr wr).trans hg2))
              clear hs2 hg2
              refine hK.out _ _ ?_ (fun hHeld => ?_)
              · (try dsimp only)
                (first | exact hc | exact HCN.out)
              clear hK K
              (try simp only [Act.put, List.setIfInBounds_toArray, List.set_cons_zero, List.set_cons_succ])
              refine take_at 6 24 ol7_6 (v := ?_) (Or.inl ⟨by rfl, ?_⟩) ?_
              rotate_left 1
              · ((intro w hSw; (try dsimp only at hSw); unfold ol7_6; go_simp) <;> with_reducible rfl)
              (try simp only [Act.put, List.setIfInBounds_toArray, List.set_cons_zero, List.set_cons_succ])
              refine take_at 7 25 ol7_7 (v := ?_) (Or.inl ⟨by rfl, ?_⟩) ?_
              rotate_left 1
              · ((intro w hSw; (try dsimp only at hSw); unfold ol7_7; go_simp) <;> with_reducible rfl)
              (try simp only [Act.put, List.setIfInBounds_toArray, List.set_cons_zero, List.set_cons_succ])
              refine take_at 8 26 ol7_8 (v := ?_) (Or.inl ⟨by rfl, ?_⟩) ?_
              rotate_left 1
              · ((intro w hSw; (try dsimp only at hSw); unfold ol7_8; go_simp) <;> with_reducible rfl)
              (try simp only [Act.put, List.setIfInBounds_toArray, List.set_cons_zero, List.set_cons_succ])
              refine take_at 9 27 ol7_9 (v := ?_) (Or.inl ⟨by rfl, ?_⟩) ?_
              rotate_left 1
              · ((intro w hSw; (try dsimp only at hSw); unfold ol7_9; go_simp) <;> with_reducible rfl)
              (try simp only [Act.put, List.setIfInBounds_toArray, List.set_cons_zero, List.set_cons_succ])
              refine take_at 10 28 ol7_10 (v := ?_) (Or.inl ⟨by rfl, ?_⟩) ?_
              rotate_left 1
              · ((intro w hSw; (try dsimp only at hSw); unfold ol7_10; go_simp) <;> with_reducible rfl)
              (try simp only [Act.put, List.setIfInBounds_toArray, List.set_cons_zero, List.set_cons_succ])
              refine take_at 11 29 ol7_11 (v := ?_) (Or.inl ⟨by rfl, ?_⟩) ?_
              rotate_left 1
              · ((intro w hSw; (try dsimp only at hSw); unfold ol7_11; go_simp) <;> with_reducible rfl)
              (try simp only [Act.put, List.setIfInBounds_toArray, List.set_cons_zero, List.set_cons_succ])
              refine take_at 12 30 ol7_12 (v := ?_) (Or.inl ⟨by rfl, ?_⟩) ?_
              rotate_left 1
              · ((intro w hSw; (try dsimp only at hSw); unfold ol7_12; go_simp) <;> with_reducible rfl)
              (try simp only [Act.put, List.setIfInBounds_toArray, List.set_cons_zero, List.set_cons_succ])
              refine take_at 13 31 ol7_13 (v := ?_) (Or.inl ⟨by rfl, ?_⟩) ?_
              rotate_left 1
              · ((intro w hSw; (try dsimp only at hSw); unfold ol7_13; go_simp) <;> with_reducible rfl)
              (try simp only [Act.put, List.setIfInBounds_toArray, List.set_cons_zero, List.set_cons_succ])
              refine take_at 14 32 ol7_14 (v := ?_) (Or.inl ⟨by rfl, ?_⟩) ?_
              rotate_left 1
              · ((intro w hSw; (try dsimp only at hSw); unfold ol7_14; go_simp) <;> with_reducible rfl)
              (try simp only [Act.put, List.setIfInBounds_toArray, List.set_cons_zero, List.set_cons_succ])
              refine wpAnyH_done (by kernel_rfl) ?_ _
              clear hHeld
              go_wp2
              go_round
              case rel => exact ⟨k + 1, by omega, by go_num, HNO.out.next HD.out HPY.out, HSN.out, HGN.out, HRN.out⟩
              case measure => simp [intOf]; omega
            exact AllReadyH.nil

        · have hsb : (so != 2) = true := by simp [hs2]
          have HPY := Lib.hid (show pM so wd y k = true by unfold pM; rw [hyx, hsb]; rfl)
          clear HS
          (try clear hk0)
          (try clear hs2)
          (try clear hs1)
          go_wp2_with fail
          refine wp_region_held_drew (S := fun w' => w'.cell? ⟨g, k, none⟩ = some (.string ⟨y.toArray⟩)) (by kernel_rfl) ?_ (fun hHeld => ?_)
          · (try dsimp only)
            (first | exact hc | exact HCN.out)
          refine take_at 0 18 ol7_0 (v := ?_) (Or.inl ⟨by rfl, ?_⟩) ?_
          rotate_left 1
          · ((intro w hSw; (try dsimp only at hSw); unfold ol7_0; go_simp) <;> with_reducible rfl)
          (try simp only [Act.put, List.setIfInBounds_toArray, List.set_cons_zero, List.set_cons_succ])
          refine take_at 1 19 ol7_1 (v := ?_) (Or.inl ⟨by rfl, ?_⟩) ?_
          rotate_left 1
          · ((intro w hSw; (try dsimp only at hSw); unfold ol7_1; go_simp) <;> with_reducible rfl)
          (try simp only [Act.put, List.setIfInBounds_toArray, List.set_cons_zero, List.set_cons_succ])
          refine take_at 2 20 ol7_2 (v := ?_) (Or.inl ⟨by rfl, ?_⟩) ?_
          rotate_left 1
          · ((intro w hSw; (try dsimp only at hSw); unfold ol7_2; go_simp) <;> with_reducible rfl)
          (try simp only [Act.put, List.setIfInBounds_toArray, List.set_cons_zero, List.set_cons_succ])
          refine take_at 3 21 ol7_3 (v := ?_) (Or.inl ⟨by rfl, ?_⟩) ?_
          rotate_left 1
          · ((intro w hSw; (try dsimp only at hSw); unfold ol7_3; go_simp) <;> with_reducible rfl)
          (try simp only [Act.put, List.setIfInBounds_toArray, List.set_cons_zero, List.set_cons_succ])
          refine take_at 4 22 ol7_4 (v := ?_) (Or.inl ⟨by rfl, ?_⟩) ?_
          rotate_left 1
          · ((intro w hSw; (try dsimp only at hSw); unfold ol7_4; go_simp) <;> with_reducible rfl)
          (try simp only [Act.put, List.setIfInBounds_toArray, List.set_cons_zero, List.set_cons_succ])
          refine wpAnyH_ready (rs := [5]) (by kernel_rfl) (by simp) ?_
          refine AllReadyH.cons (o := ol7_5) rfl (fun K hK => ?_) ?_
          · unfold ol7_5
            go_simp
            (go_at_call 43; with_reducible refine Calls.mono HWD.out ?_)
            rintro e wn ⟨rfl, hs2, hg2⟩
            rw [hwd]
            have HSN := Lib.hid hs2
            have HGN := Lib.hid ((HG.out.trans (drew_gr wr)).trans hg2)
            have HCN := Lib.hid (cell_gr ((drew_gr wr).trans hg2) hc)
            have HRN := Lib.hid (HR.out.same ((drew_gr wr).trans hg2))
            clear hs2 hg2
            refine hK.out _ _ ?_ (fun hHeld => ?_)
            · (try dsimp only)
              (first | exact hc | exact HCN.out)
            clear hK K
            (try simp only [Act.put, List.setIfInBounds_toArray, List.set_cons_zero, List.set_cons_succ])
            refine take_at 6 24 ol7_6 (v := ?_) (Or.inl ⟨by rfl, ?_⟩) ?_
            rotate_left 1
            · ((intro w hSw; (try dsimp only at hSw); unfold ol7_6; go_simp) <;> with_reducible rfl)
            (try simp only [Act.put, List.setIfInBounds_toArray, List.set_cons_zero, List.set_cons_succ])
            refine take_at 7 25 ol7_7 (v := ?_) (Or.inl ⟨by rfl, ?_⟩) ?_
            rotate_left 1
            · ((intro w hSw; (try dsimp only at hSw); unfold ol7_7; go_simp) <;> with_reducible rfl)
            (try simp only [Act.put, List.setIfInBounds_toArray, List.set_cons_zero, List.set_cons_succ])
            refine take_at 8 26 ol7_8 (v := ?_) (Or.inl ⟨by rfl, ?_⟩) ?_
            rotate_left 1
            · ((intro w hSw; (try dsimp only at hSw); unfold ol7_8; go_simp) <;> with_reducible rfl)
            (try simp only [Act.put, List.setIfInBounds_toArray, List.set_cons_zero, List.set_cons_succ])
            refine take_at 9 27 ol7_9 (v := ?_) (Or.inl ⟨by rfl, ?_⟩) ?_
            rotate_left 1
            · ((intro w hSw; (try dsimp only at hSw); unfold ol7_9; go_simp) <;> with_reducible rfl)
            (try simp only [Act.put, List.setIfInBounds_toArray, List.set_cons_zero, List.set_cons_succ])
            refine take_at 10 28 ol7_10 (v := ?_) (Or.inl ⟨by rfl, ?_⟩) ?_
            rotate_left 1
            · ((intro w hSw; (try dsimp only at hSw); unfold ol7_10; go_simp) <;> with_reducible rfl)
            (try simp only [Act.put, List.setIfInBounds_toArray, List.set_cons_zero, List.set_cons_succ])
            refine take_at 11 29 ol7_11 (v := undef) (Or.inr ⟨by rfl, rfl⟩) ?_
            (try simp only [Act.put, List.setIfInBounds_toArray, List.set_cons_zero, List.set_cons_succ])
            refine take_at 12 30 ol7_12 (v := undef) (Or.inr ⟨by rfl, rfl⟩) ?_
            (try simp only [Act.put, List.setIfInBounds_toArray, List.set_cons_zero, List.set_cons_succ])
            refine take_at 13 31 ol7_13 (v := ?_) (Or.inl ⟨by rfl, ?_⟩) ?_
            rotate_left 1
            · ((intro w hSw; (try dsimp only at hSw); unfold ol7_13; go_simp) <;> with_reducible rfl)
            (try simp only [Act.put, List.setIfInBounds_toArray, List.set_cons_zero, List.set_cons_succ])
            refine take_at 14 32 ol7_14 (v := ?_) (Or.inl ⟨by rfl, ?_⟩) ?_
            rotate_left 1
            · ((intro w hSw; (try dsimp only at hSw); unfold ol7_14; go_simp) <;> with_reducible rfl)
            (try simp only [Act.put, List.setIfInBounds_toArray, List.set_cons_zero, List.set_cons_succ])
            refine wpAnyH_done (by kernel_rfl) ?_ _
            clear hHeld
            go_wp2
            go_ret
            exact ⟨by rw [HX.out]; exact congrArg (fun z => Ending.returned (.int .i64 z)) (listW_marked (HNO.out.found HD.out HPY.out)).symm, HSN.out, HGN.out⟩
          exact AllReadyH.nil

    · obtain rfl : k = 12 := by omega
      have HN1 := Lib.hid (HNO.out.none (Nat.le_refl _))
      have HS1 := HS
      have HG1 := HG
      have HMK := Lib.hid (ppl_any wr)
      clear HNO HS HG HR hlt hk
      go_wp2_with fail
      refine HMK.out.mono ?_
      rintro e w2 ⟨g, rfl, hrow, hg2⟩
      have HSM := Lib.hid (HS1.out.same hg2)
      have HGM := Lib.hid (HG1.out.trans hg2)
      have HRM := Lib.hid hrow
      clear hrow hg2 HMK
      go_wp2_with fail
      go_loopw [7] (fun i wr => ∃ k : Nat, k ≤ 11 ∧ i = .int .i64 k ∧ Hid (FindI (pP so wd) plainL k) ∧ Hid (RS c nv s wr) ∧ Hid (w.grownBy wr none) ∧ Hid (WRow wr g plainL)) (fun i _ => 11 - (intOf i).toNat)
      case atStart => exact ⟨0, Nat.zero_le _, rfl, Lib.hid (FindI.start _ _), HSM, HGM, HRM⟩
      case round =>
        obtain ⟨k, hk, rfl, HNO, HS, HG, HR⟩ := hrel
        clear HSM HGM HRM
        by_cases hlt : k < 11
        · have hkl : k < (plainL).length := hlt
          have hc := HR.out k hkl
          have HD := Lib.hid (List.drop_eq_getElem_cons hkl)
          obtain ⟨y, hy⟩ : ∃ y, (plainL)[k]'hkl = y := ⟨_, rfl⟩
          rw [hy] at hc HD
          unfold strV at hc
          clear hy
          have HWD := Lib.hid (HS.out.drew.word)
          cases hyx : (y == wd)
          · have HPY := Lib.hid (show pP so wd y k = false by unfold pP; rw [hyx]; rfl)
            clear HS
            (try clear hk0)
            (try clear hs2)
            (try clear hs1)
            go_wp2_with fail
            refine wp_region_held_drew (S := fun w' => w'.cell? ⟨g, k, none⟩ = some (.string ⟨y.toArray⟩)) (by kernel_rfl) ?_ (fun hHeld => ?_)
            · (try dsimp only)
              (first | exact hc | exact HCN.out)
            refine take_at 0 42 ol13_0 (v := ?_) (Or.inl ⟨by rfl, ?_⟩) ?_
            rotate_left 1
            · ((intro w hSw; (try dsimp only at hSw); unfold ol13_0; go_simp) <;> with_reducible rfl)
            (try simp only [Act.put, List.setIfInBounds_toArray, List.set_cons_zero, List.set_cons_succ])
            refine take_at 1 43 ol13_1 (v := ?_) (Or.inl ⟨by rfl, ?_⟩) ?_
            rotate_left 1
            · ((intro w hSw; (try dsimp only at hSw); unfold ol13_1; go_simp) <;> with_reducible rfl)
            (try simp only [Act.put, List.setIfInBounds_toArray, List.set_cons_zero, List.set_cons_succ])
            refine take_at 2 44 ol13_2 (v := ?_) (Or.inl ⟨by rfl, ?_⟩) ?_
            rotate_left 1
            · ((intro w hSw; (try dsimp only at hSw); unfold ol13_2; go_simp) <;> with_reducible rfl)
            (try simp only [Act.put, List.setIfInBounds_toArray, List.set_cons_zero, List.set_cons_succ])
            refine take_at 3 45 ol13_3 (v := ?_) (Or.inl ⟨by rfl, ?_⟩) ?_
            rotate_left 1
            · ((intro w hSw; (try dsimp only at hSw); unfold ol13_3; go_simp) <;> with_reducible rfl)
            (try simp only [Act.put, List.setIfInBounds_toArray, List.set_cons_zero, List.set_cons_succ])
            refine take_at 4 46 ol13_4 (v := ?_) (Or.inl ⟨by rfl, ?_⟩) ?_
            rotate_left 1
            · ((intro w hSw; (try dsimp only at hSw); unfold ol13_4; go_simp) <;> with_reducible rfl)
            (try simp only [Act.put, List.setIfInBounds_toArray, List.set_cons_zero, List.set_cons_succ])
            refine wpAnyH_ready (rs := [5]) (by kernel_rfl) (by simp) ?_
            refine AllReadyH.cons (o := ol13_5) rfl (fun K hK => ?_) ?_
            · unfold ol13_5
              go_simp
              (go_at_call 43; with_reducible refine Calls.mono HWD.out ?_)
              rintro e wn ⟨rfl, hs2, hg2⟩
              rw [hwd]
              have HSN := Lib.hid hs2
              have HGN := Lib.hid ((HG.out.trans (drew_gr wr)).trans hg2)
              have HCN := Lib.hid (cell_gr ((drew_gr wr).trans hg2) hc)
              have HRN := Lib.hid (HR.out.same ((drew_gr wr).trans hg2))
              clear hs2 hg2
              refine hK.out _ _ ?_ (fun hHeld => ?_)
              · (try dsimp only)
                (first | exact hc | exact HCN.out)
              clear hK K
              (try simp only [Act.put, List.setIfInBounds_toArray, List.set_cons_zero, List.set_cons_succ])
              refine take_at 6 48 ol13_6 (v := ?_) (Or.inl ⟨by rfl, ?_⟩) ?_
              rotate_left 1
              · ((intro w hSw; (try dsimp only at hSw); unfold ol13_6; go_simp) <;> with_reducible rfl)
              (try simp only [Act.put, List.setIfInBounds_toArray, List.set_cons_zero, List.set_cons_succ])
              refine take_at 7 49 ol13_7 (v := ?_) (Or.inl ⟨by rfl, ?_⟩) ?_
              rotate_left 1
              · ((intro w hSw; (try dsimp only at hSw); unfold ol13_7; go_simp) <;> with_reducible rfl)
              (try simp only [Act.put, List.setIfInBounds_toArray, List.set_cons_zero, List.set_cons_succ])
              refine take_at 8 50 ol13_8 (v := undef) (Or.inr ⟨by rfl, rfl⟩) ?_
              (try simp only [Act.put, List.setIfInBounds_toArray, List.set_cons_zero, List.set_cons_succ])
              refine take_at 9 51 ol13_9 (v := undef) (Or.inr ⟨by rfl, rfl⟩) ?_
              (try simp only [Act.put, List.setIfInBounds_toArray, List.set_cons_zero, List.set_cons_succ])
              refine take_at 10 52 ol13_10 (v := ?_) (Or.inl ⟨by rfl, ?_⟩) ?_
              rotate_left 1
              · ((intro w hSw; (try dsimp only at hSw); unfold ol13_10; go_simp) <;> with_reducible rfl)
              (try simp only [Act.put, List.setIfInBounds_toArray, List.set_cons_zero, List.set_cons_succ])
              refine wpAnyH_done (by kernel_rfl) ?_ _
              clear hHeld
              go_wp2
              go_round
              case rel => exact ⟨k + 1, by omega, by go_num, HNO.out.next HD.out HPY.out, HSN.out, HGN.out, HRN.out⟩
              case measure => simp [intOf]; omega
            exact AllReadyH.nil

          · by_cases hs1 : so = 1
            · have hsb : (so != 1) = false := by simp [hs1]
              have HPY := Lib.hid (show pP so wd y k = false by unfold pP; rw [hyx, hsb]; rfl)
              clear HS
              (try clear hk0)
              (try clear hs2)
              (try clear hs1)
              go_wp2_with fail
              refine wp_region_held_drew (S := fun w' => w'.cell? ⟨g, k, none⟩ = some (.string ⟨y.toArray⟩)) (by kernel_rfl) ?_ (fun hHeld => ?_)
              · (try dsimp only)
                (first | exact hc | exact HCN.out)
              refine take_at 0 42 ol13_0 (v := ?_) (Or.inl ⟨by rfl, ?_⟩) ?_
              rotate_left 1
              · ((intro w hSw; (try dsimp only at hSw); unfold ol13_0; go_simp) <;> with_reducible rfl)
              (try simp only [Act.put, List.setIfInBounds_toArray, List.set_cons_zero, List.set_cons_succ])
              refine take_at 1 43 ol13_1 (v := ?_) (Or.inl ⟨by rfl, ?_⟩) ?_
              rotate_left 1
              · ((intro w hSw; (try dsimp only at hSw); unfold ol13_1; go_simp) <;> with_reducible rfl)
              (try simp only [Act.put, List.setIfInBounds_toArray, List.set_cons_zero, List.set_cons_succ])
              refine take_at 2 44 ol13_2 (v := ?_) (Or.inl ⟨by rfl, ?_⟩) ?_
              rotate_left 1
              · ((intro w hSw; (try dsimp only at hSw); unfold ol13_2; go_simp) <;> with_reducible rfl)
              (try simp only [Act.put, List.setIfInBounds_toArray, List.set_cons_zero, List.set_cons_succ])
              refine take_at 3 45 ol13_3 (v := ?_) (Or.inl ⟨by rfl, ?_⟩) ?_
              rotate_left 1
              · ((intro w hSw; (try dsimp only at hSw); unfold ol13_3; go_simp) <;> with_reducible rfl)
              (try simp only [Act.put, List.setIfInBounds_toArray, List.set_cons_zero, List.set_cons_succ])
              refine take_at 4 46 ol13_4 (v := ?_) (Or.inl ⟨by rfl, ?_⟩) ?_
              rotate_left 1
              · ((intro w hSw; (try dsimp only at hSw); unfold ol13_4; go_simp) <;> with_reducible rfl)
              (try simp only [Act.put, List.setIfInBounds_toArray, List.set_cons_zero, List.set_cons_succ])
              refine wpAnyH_ready (rs := [5]) (by kernel_rfl) (by simp) ?_
              refine AllReadyH.cons (o := ol13_5) rfl (fun K hK => ?_) ?_
              · unfold ol13_5
                go_simp
                (go_at_call 43; with_reducible refine Calls.mono HWD.out ?_)
                rintro e wn ⟨rfl, hs2, hg2⟩
                rw [hwd]
                have HSN := Lib.hid hs2
                have HGN := Lib.hid ((HG.out.trans (drew_gr wr)).trans hg2)
                have HCN := Lib.hid (cell_gr ((drew_gr wr).trans hg2) hc)
                have HRN := Lib.hid (HR.out.same ((drew_gr wr).trans hg2))
                clear hs2 hg2
                refine hK.out _ _ ?_ (fun hHeld => ?_)
                · (try dsimp only)
                  (first | exact hc | exact HCN.out)
                clear hK K
                (try simp only [Act.put, List.setIfInBounds_toArray, List.set_cons_zero, List.set_cons_succ])
                refine take_at 6 48 ol13_6 (v := ?_) (Or.inl ⟨by rfl, ?_⟩) ?_
                rotate_left 1
                · ((intro w hSw; (try dsimp only at hSw); unfold ol13_6; go_simp) <;> with_reducible rfl)
                (try simp only [Act.put, List.setIfInBounds_toArray, List.set_cons_zero, List.set_cons_succ])
                refine take_at 7 49 ol13_7 (v := ?_) (Or.inl ⟨by rfl, ?_⟩) ?_
                rotate_left 1
                · ((intro w hSw; (try dsimp only at hSw); unfold ol13_7; go_simp) <;> with_reducible rfl)
                (try simp only [Act.put, List.setIfInBounds_toArray, List.set_cons_zero, List.set_cons_succ])
                refine take_at 8 50 ol13_8 (v := ?_) (Or.inl ⟨by rfl, ?_⟩) ?_
                rotate_left 1
                · ((intro w hSw; (try dsimp only at hSw); unfold ol13_8; go_simp) <;> with_reducible rfl)
                (try simp only [Act.put, List.setIfInBounds_toArray, List.set_cons_zero, List.set_cons_succ])
                refine take_at 9 51 ol13_9 (v := ?_) (Or.inl ⟨by rfl, ?_⟩) ?_
                rotate_left 1
                · ((intro w hSw; (try dsimp only at hSw); unfold ol13_9; go_simp) <;> with_reducible rfl)
                (try simp only [Act.put, List.setIfInBounds_toArray, List.set_cons_zero, List.set_cons_succ])
                refine take_at 10 52 ol13_10 (v := ?_) (Or.inl ⟨by rfl, ?_⟩) ?_
                rotate_left 1
                · ((intro w hSw; (try dsimp only at hSw); unfold ol13_10; go_simp) <;> with_reducible rfl)
                (try simp only [Act.put, List.setIfInBounds_toArray, List.set_cons_zero, List.set_cons_succ])
                refine wpAnyH_done (by kernel_rfl) ?_ _
                clear hHeld
                go_wp2
                go_round
                case rel => exact ⟨k + 1, by omega, by go_num, HNO.out.next HD.out HPY.out, HSN.out, HGN.out, HRN.out⟩
                case measure => simp [intOf]; omega
              exact AllReadyH.nil

            · have hsb : (so != 1) = true := by simp [hs1]
              have HPY := Lib.hid (show pP so wd y k = true by unfold pP; rw [hyx, hsb]; rfl)
              clear HS
              (try clear hk0)
              (try clear hs2)
              (try clear hs1)
              go_wp2_with fail
              refine wp_region_held_drew (S := fun w' => w'.cell? ⟨g, k, none⟩ = some (.string ⟨y.toArray⟩)) (by kernel_rfl) ?_ (fun hHeld => ?_)
              · (try dsimp only)
                (first | exact hc | exact HCN.out)
              refine take_at 0 42 ol13_0 (v := ?_) (Or.inl ⟨by rfl, ?_⟩) ?_
              rotate_left 1
              · ((intro w hSw; (try dsimp only at hSw); unfold ol13_0; go_simp) <;> with_reducible rfl)
              (try simp only [Act.put, List.setIfInBounds_toArray, List.set_cons_zero, List.set_cons_succ])
              refine take_at 1 43 ol13_1 (v := ?_) (Or.inl ⟨by rfl, ?_⟩) ?_
              rotate_left 1
              · ((intro w hSw; (try dsimp only at hSw); unfold ol13_1; go_simp) <;> with_reducible rfl)
              (try simp only [Act.put, List.setIfInBounds_toArray, List.set_cons_zero, List.set_cons_succ])
              refine take_at 2 44 ol13_2 (v := ?_) (Or.inl ⟨by rfl, ?_⟩) ?_
              rotate_left 1
              · ((intro w hSw; (try dsimp only at hSw); unfold ol13_2; go_simp) <;> with_reducible rfl)
              (try simp only [Act.put, List.setIfInBounds_toArray, List.set_cons_zero, List.set_cons_succ])
              refine take_at 3 45 ol13_3 (v := ?_) (Or.inl ⟨by rfl, ?_⟩) ?_
              rotate_left 1
              · ((intro w hSw; (try dsimp only at hSw); unfold ol13_3; go_simp) <;> with_reducible rfl)
              (try simp only [Act.put, List.setIfInBounds_toArray, List.set_cons_zero, List.set_cons_succ])
              refine take_at 4 46 ol13_4 (v := ?_) (Or.inl ⟨by rfl, ?_⟩) ?_
              rotate_left 1
              · ((intro w hSw; (try dsimp only at hSw); unfold ol13_4; go_simp) <;> with_reducible rfl)
              (try simp only [Act.put, List.setIfInBounds_toArray, List.set_cons_zero, List.set_cons_succ])
              refine wpAnyH_ready (rs := [5]) (by kernel_rfl) (by simp) ?_
              refine AllReadyH.cons (o := ol13_5) rfl (fun K hK => ?_) ?_
              · unfold ol13_5
                go_simp
                (go_at_call 43; with_reducible refine Calls.mono HWD.out ?_)
                rintro e wn ⟨rfl, hs2, hg2⟩
                rw [hwd]
                have HSN := Lib.hid hs2
                have HGN := Lib.hid ((HG.out.trans (drew_gr wr)).trans hg2)
                have HCN := Lib.hid (cell_gr ((drew_gr wr).trans hg2) hc)
                have HRN := Lib.hid (HR.out.same ((drew_gr wr).trans hg2))
                clear hs2 hg2
                refine hK.out _ _ ?_ (fun hHeld => ?_)
                · (try dsimp only)
                  (first | exact hc | exact HCN.out)
                clear hK K
                (try simp only [Act.put, List.setIfInBounds_toArray, List.set_cons_zero, List.set_cons_succ])
                refine take_at 6 48 ol13_6 (v := ?_) (Or.inl ⟨by rfl, ?_⟩) ?_
                rotate_left 1
                · ((intro w hSw; (try dsimp only at hSw); unfold ol13_6; go_simp) <;> with_reducible rfl)
                (try simp only [Act.put, List.setIfInBounds_toArray, List.set_cons_zero, List.set_cons_succ])
                refine take_at 7 49 ol13_7 (v := ?_) (Or.inl ⟨by rfl, ?_⟩) ?_
                rotate_left 1
                · ((intro w hSw; (try dsimp only at hSw); unfold ol13_7; go_simp) <;> with_reducible rfl)
                (try simp only [Act.put, List.setIfInBounds_toArray, List.set_cons_zero, List.set_cons_succ])
                refine take_at 8 50 ol13_8 (v := ?_) (Or.inl ⟨by rfl, ?_⟩) ?_
                rotate_left 1
                · ((intro w hSw; (try dsimp only at hSw); unfold ol13_8; go_simp) <;> with_reducible rfl)
                (try simp only [Act.put, List.setIfInBounds_toArray, List.set_cons_zero, List.set_cons_succ])
                refine take_at 9 51 ol13_9 (v := ?_) (Or.inl ⟨by rfl, ?_⟩) ?_
                rotate_left 1
                · ((intro w hSw; (try dsimp only at hSw); unfold ol13_9; go_simp) <;> with_reducible rfl)
                (try simp only [Act.put, List.setIfInBounds_toArray, List.set_cons_zero, List.set_cons_succ])
                refine take_at 10 52 ol13_10 (v := ?_) (Or.inl ⟨by rfl, ?_⟩) ?_
                rotate_left 1
                · ((intro w hSw; (try dsimp only at hSw); unfold ol13_10; go_simp) <;> with_reducible rfl)
                (try simp only [Act.put, List.setIfInBounds_toArray, List.set_cons_zero, List.set_cons_succ])
                refine wpAnyH_done (by kernel_rfl) ?_ _
                clear hHeld
                go_wp2
                go_ret
                exact ⟨by rw [HX.out]; exact congrArg (fun z => Ending.returned (.int .i64 z)) (listW_plain HN1.out (HNO.out.found HD.out HPY.out)).symm, HSN.out, HGN.out⟩
              exact AllReadyH.nil

        · obtain rfl : k = 11 := by omega
          have HN2 := Lib.hid (HNO.out.none (Nat.le_refl _))
          go_wp2
          go_ret
          exact ⟨by rw [HX.out]; exact congrArg (fun z => Ending.returned (.int .i64 z)) (listW_none HN1.out HN2.out).symm, HS.out, HG.out⟩

end Go.Proofs.YtpekceadjcbphaaDoor.Rt

namespace Go.Proofs.YtpekceadjcbphaaDoor
open Go.RowKit

/-- Five cells of one block are written. -/
abbrev five (w : World) (g : Nat) (v0 v1 v2 v3 v4 : Value) : World := ((((w.setCell ⟨g, 0, none⟩ v0).setCell ⟨g, 1, none⟩ v1).setCell ⟨g, 2, none⟩ v2).setCell ⟨g, 3, none⟩ v3).setCell ⟨g, 4, none⟩ v4
theorem five_other (w : World) (g : Nat) (v0 v1 v2 v3 v4 : Value) {b : Nat} (h : b ≠ g) : (five w g v0 v1 v2 v3 v4).heap[b]? = w.heap[b]? := by
  unfold five; repeat rw [Below.heap_setCell _ _ _ _ (by exact h)]
theorem liesP_fives {B N g : Nat} {w : World} {l : List Tm} {s : Value} (h : LiesP w (Own B w) l s) (hg : g < B) (hN : N ≤ B) (v0 v1 v2 v3 v4 : Value) : LiesP (five w g v0 v1 v2 v3 v4) (Own N (five w g v0 v1 v2 v3 v4)) l s :=
  h.keep (fun b hp _ => five_other w g v0 v1 v2 v3 v4 (by have := hp.1; omega)) (fun b hp _ => (hp.from hN).same (five_other w g v0 v1 v2 v3 v4 (by have := hp.1; omega)))
theorem one5 (t : Tm) (s : Value) (hs : s.oneCell' = true := by rfl) : ∀ v ∈ cells5 [(t, s)], v.oneCell' = true := by
  intro v hv; simp [cells5] at hv; rcases hv with rfl | rfl | rfl | rfl | rfl
  · rfl
  · rfl
  · rfl
  · rfl
  · exact hs
/-- What a call hands back that makes a term, or the zero term and false. -/
def GivesZ (r : Option Tm) (w : World) (e : Ending) (w' : World) : Prop := Below w.heap.size w w' ∧
  ((∃ u s', r = some u ∧ e = .returned (.tuple #[tv u s', .bool true]) ∧ LiesP w' (Own w.heap.size w') u.kids s') ∨ (r = none ∧ e = .returned (.tuple #[tv Tm.zero (.slice none 0 0), .bool false])))
theorem GivesZ.none {w w' : World} {e : Ending} (h : GivesZ none w e w') : e = .returned (.tuple #[tv Tm.zero (.slice none 0 0), .bool false]) ∧ Below w.heap.size w w' := by
  obtain ⟨hb, ⟨u, s', h1, -⟩ | ⟨-, h2⟩⟩ := h
  · cases h1
  · exact ⟨h2, hb⟩
theorem GivesZ.some {u : Tm} {w w' : World} {e : Ending} (h : GivesZ (some u) w e w') : GivesSome u w e w' := by
  obtain ⟨hb, ⟨u', s', h1, h2, h3⟩ | ⟨h1, -⟩⟩ := h
  · cases h1; exact ⟨⟨s', h2, h3⟩, hb⟩
  · cases h1
end Go.Proofs.YtpekceadjcbphaaDoor

namespace Go.Proofs.YtpekceadjcbphaaDoor.Rt
open Go.RowKit
open Dv (XS kindAt wordAt placeAt wantX rrO rrX badV PTok hltD typeD)

structure KeepT (L : List Tok) (tx : TX) : Prop where
  keep : ∀ so N s, IX L s → IX L (tx so N s).2
  up : ∀ so N s, s.p ≤ (tx so N s).2.p
theorem kidsX_keep {tx : TX} {L : List Tok} (h : KeepT L tx) {k own : Int} : ∀ {c p : Nat} {x N : Names} {s : XS}, (IX L s → IX L (kidsX tx L k own x p c N s).2) ∧ s.p ≤ (kidsX tx L k own x p c N s).2.p
  | 0, p, x, N, s => ⟨fun h => h, Nat.le_refl _⟩
  | c + 1, p, x, N, s => by
    unfold kidsX
    dsimp only
    obtain ⟨h1, h2⟩ := kidsX_keep h (k := k) (own := own) (c := c) (p := p + 1) (x := if k = 22 ∧ p = 2 then [(wantX L 3 (wantX L 3 s).2).1, (wantX L 3 s).1] else x) (N := N) (s := (tx (if k = 12 ∧ p = 2 then 2 else own) (if bindsN k p = 0 then N else (if k = 22 ∧ p = 2 then [(wantX L 3 (wantX L 3 s).2).1, (wantX L 3 s).1] else x) ++ N) (if k = 22 ∧ p = 2 then (wantX L 3 (wantX L 3 s).2).2 else s)).2)
    have h3 : (IX L s → IX L (if k = 22 ∧ p = 2 then (wantX L 3 (wantX L 3 s).2).2 else s)) ∧ s.p ≤ (if k = 22 ∧ p = 2 then (wantX L 3 (wantX L 3 s).2).2 else s).p := by
      split
      · exact ⟨fun h => (h.want (by decide)).want (by decide), Nat.le_trans (want_up _ _ _) (want_up _ _ _)⟩
      · exact ⟨fun h => h, Nat.le_refl _⟩
    exact ⟨fun hi => h1 (h.keep _ _ _ (h3.1 hi)), Nat.le_trans h3.2 (Nat.le_trans (h.up _ _ _) h2)⟩
theorem lv_keep {L : List Tok} {lx : XS → Int × XS} (h : KeepL L lx) (c : Prop) [Decidable c] {s : XS} : (IX L s → IX L (if c then lx s else (0, s)).2) ∧ s.p ≤ (if c then lx s else (0, s)).2.p := by
  split
  · exact ⟨h.keep s, h.up s⟩
  · exact ⟨fun h => h, Nat.le_refl _⟩
/-- Behind the levels. -/
def tailX (tx : TX) (L : List Tok) (k i j n : Int) (N : Names) (s : XS) : Tm × XS :=
  let x := if bindsN k 1 = 1 then wantX L 3 s else ([], s)
  let kd := kidsX tx L k (ownS k) (if bindsN k 1 = 1 then [x.1] else []) 0 (kidsN k n).toNat N x.2
  (.mk k i j n kd.1, (wantX L 2 kd.2).2)
theorem restX_tail (lx : XS → Int × XS) (tx : TX) (L : List Tok) (k n : Int) (N : Names) (s : XS) : restX lx tx L k n N s = tailX tx L k (if 0 < levelsN k then lx s else (0, s)).1 (if 1 < levelsN k then lx (if 0 < levelsN k then lx s else (0, s)).2 else (0, (if 0 < levelsN k then lx s else (0, s)).2)).1 n N (if 1 < levelsN k then lx (if 0 < levelsN k then lx s else (0, s)).2 else (0, (if 0 < levelsN k then lx s else (0, s)).2)).2 := rfl
theorem tailX_keep {tx : TX} {L : List Tok} (h : KeepT L tx) {k i j n : Int} {N : Names} {s : XS} : (IX L s → IX L (tailX tx L k i j n N s).2) ∧ s.p ≤ (tailX tx L k i j n N s).2.p := by
  unfold tailX
  dsimp only
  have h3 : (IX L s → IX L (if bindsN k 1 = 1 then wantX L 3 s else ([], s)).2) ∧ s.p ≤ (if bindsN k 1 = 1 then wantX L 3 s else ([], s)).2.p := by
    split
    · exact ⟨fun h => h.want (by decide), want_up _ _ _⟩
    · exact ⟨fun h => h, Nat.le_refl _⟩
  obtain ⟨h1, h2⟩ := kidsX_keep h (k := k) (own := ownS k) (c := (kidsN k n).toNat) (p := 0) (x := if bindsN k 1 = 1 then [(if bindsN k 1 = 1 then wantX L 3 s else ([], s)).1] else []) (N := N) (s := (if bindsN k 1 = 1 then wantX L 3 s else ([], s)).2)
  exact ⟨fun hi => (h1 (h3.1 hi)).want (by decide), Nat.le_trans h3.2 (Nat.le_trans h2 (want_up _ _ _))⟩
theorem restX_keep {lx : XS → Int × XS} {tx : TX} {L : List Tok} (hl : KeepL L lx) (h : KeepT L tx) {k n : Int} {N : Names} {s : XS} : (IX L s → IX L (restX lx tx L k n N s).2) ∧ s.p ≤ (restX lx tx L k n N s).2.p := by
  rw [restX_tail]
  obtain ⟨a1, a2⟩ := lv_keep hl (0 < levelsN k) (s := s)
  obtain ⟨b1, b2⟩ := lv_keep hl (1 < levelsN k) (s := (if 0 < levelsN k then lx s else (0, s)).2)
  obtain ⟨c1, c2⟩ := tailX_keep h (k := k) (i := (if 0 < levelsN k then lx s else (0, s)).1) (j := (if 1 < levelsN k then lx (if 0 < levelsN k then lx s else (0, s)).2 else (0, (if 0 < levelsN k then lx s else (0, s)).2)).1) (n := n) (N := N) (s := (if 1 < levelsN k then lx (if 0 < levelsN k then lx s else (0, s)).2 else (0, (if 0 < levelsN k then lx s else (0, s)).2)).2)
  exact ⟨fun hi => c1 (b1 (a1 hi)), Nat.le_trans a2 (Nat.le_trans b2 c2)⟩
theorem bodyX_keep {lx : XS → Int × XS} {tx : TX} {L : List Tok} (hl : KeepL L lx) (h : KeepT L tx) {k : Int} {N : Names} {s : XS} : (IX L s → IX L (bodyX lx tx L k N s).2) ∧ s.p ≤ (bodyX lx tx L k N s).2.p := by
  unfold bodyX
  by_cases hk : k = 23
  · rw [if_pos hk]
    by_cases hc : kindAt L s.p = 3 ∧ symN (wordAt L s.p) ≠ 0
    · rw [if_pos hc]
      obtain ⟨h1, h2⟩ := restX_keep hl h (k := k) (n := symN (wordAt L s.p)) (N := N) (s := s.next)
      exact ⟨fun hi => h1 (hi.next (by omega)), Nat.le_trans (Nat.le_succ _) h2⟩
    · rw [if_neg hc]
      exact ⟨fun hi => hi.fail, by rw [fail_p]; exact Nat.le_refl _⟩
  · rw [if_neg hk]
    exact restX_keep hl h
theorem listK_kind {L : List Tok} {so : Int} {s : XS} (h : listK L so s ≠ 0) : kindAt L s.p = 3 ∧ listK L so s = headN (wordAt L s.p) := by
  unfold listK at h ⊢
  split at h
  · rename_i hc; rw [if_pos hc]; exact ⟨hc.1, rfl⟩
  · exact absurd rfl h
theorem termX_keep {L : List Tok} {i j : Int} (hi : 0 ≤ i ∧ i ≤ 1000) (hj : 0 ≤ j ∧ j ≤ 1000) : ∀ f, KeepT L (termX L i j f)
  | 0 => ⟨fun _ _ s h => h.fail, fun _ _ s => by show s.p ≤ s.fail.p; rw [fail_p]; exact Nat.le_refl _⟩
  | f + 1 => by
    have H := fun k N s => bodyX_keep (levX_keep (L := L) hi hj f) (termX_keep (L := L) hi hj f) (k := k) (N := N) (s := s)
    have main : ∀ so N s, (IX L s → IX L (termX L i j (f + 1) so N s).2) ∧ s.p ≤ (termX L i j (f + 1) so N s).2.p := by
      intro so N s
      unfold termX
      cases hb : s.bad with
      | some b => exact ⟨fun h => h, Nat.le_refl _⟩
      | none =>
        dsimp only
        by_cases k3 : kindAt L s.p = 3
        · rw [if_pos k3]
          cases idxL (wordAt L s.p) N with
          | some q => exact ⟨fun h => h.next (by omega), Nat.le_succ _⟩
          | none => exact ⟨fun h => h.fail, by dsimp only; rw [fail_p]; exact Nat.le_refl _⟩
        · rw [if_neg k3]
          by_cases k1 : kindAt L s.p = 1
          · rw [if_pos k1]
            by_cases hl : listK L so s.next = 0
            · rw [if_pos hl]
              exact ⟨fun h => (h.next (by omega)).fail, by dsimp only; rw [fail_p]; exact Nat.le_succ _⟩
            · rw [if_neg hl]
              obtain ⟨h1, h2⟩ := H (listK L so s.next) N s.next.next
              exact ⟨fun h => h1 ((h.next (by omega)).next (by rw [(listK_kind hl).1]; decide)), Nat.le_trans (Nat.le_trans (Nat.le_succ _) (Nat.le_succ _)) h2⟩
          · rw [if_neg k1]
            exact ⟨fun h => h.fail, by dsimp only; rw [fail_p]; exact Nat.le_refl _⟩
    exact ⟨fun so N s => (main so N s).1, fun so N s => (main so N s).2⟩

/-- What a term's reading gives. -/
def TermG (c : PR) (N : Names) (w : World) (x : Tm × XS) (e : Ending) (w' : World) : Prop := ∃ sv nv, e = .returned (tv x.1 sv) ∧ LiesP w' (Own w.heap.size w') x.1.kids sv ∧ x.1.fine ∧ RS c nv x.2 w' ∧ NR w' nv N ∧ Fw c w w'
structure TermC (c : PR) (f : Nat) (tx : TX) : Prop where
  use : ∀ (so : Int) (N : Names) (nv : Value) (s : XS) (w : World), (so = 0 ∨ so = 1 ∨ so = 2) → IX c.L s → c.L.length + 1 ≤ s.p + f → N.length + 2 * f ≤ 50000000 → RS c nv s w → NR w nv N → Calls Tryd.prog 23 #[.pointer (some ⟨c.R, 0, none⟩), .int .i64 so] w (TermG c N w (tx so N s))
theorem NR.other {w w' : World} {nv : Value} {N : Names} {row : Option Nat} (h : NR w nv N) (hg : w.grownBy w' row) (hT : ∀ b, row = some b → ∃ cs fz, w.heap[b]? = some (Obj.cells cs 26 fz)) : NR w' nv N := by
  rcases h with h | ⟨g, cap, cur, e, hh, r⟩
  · exact Or.inl h
  refine Or.inr ⟨g, cap, cur, e, (hg.block _ (hltD hh) (fun e2 => ?_)).trans hh, r⟩
  obtain ⟨cs, fz, h2⟩ := hT g e2.symm
  exact absurd (typeD hh h2) (by decide)
theorem RS.term {c : PR} {nv : Value} {s : XS} {w w' : World} {row : Option Nat} (h : RS c nv s w) (hg : w.grownBy w' row) (hT : ∀ b, row = some b → ∃ cs fz, w.heap[b]? = some (Obj.cells cs 26 fz)) : RS c nv s w' := by
  refine h.other hg (fun e => ?_) (fun b e cs T fz h2 => ?_)
  · obtain ⟨cs, fz, h2⟩ := hT _ e
    have r := h.rd
    unfold rrX rrO at r
    exact absurd (typeD r h2) (by decide)
  · obtain ⟨cs', fz', h3⟩ := hT b e
    rintro rfl
    exact absurd (typeD h2 h3) (by decide)
/-- What stands by while the kids are read: the result's block, the term's block. -/
structure StandB (c : PR) (w : World) (D : Nat) (t : Tm) (v nv : Value) (s : XS) (N : Names) (w' : World) : Prop where
  box : w'.heap[D]? = some (boxOf t v)
  res : w'.heap[w.heap.size]? = some zeroObj
  st : RS c nv s w'
  nm : NR w' nv N
  fr : Fw c w w'
  hR : c.R < w.heap.size
  hD : w.heap.size < D
theorem StandB.lt {c : PR} {w w' : World} {D : Nat} {t : Tm} {v nv : Value} {s : XS} {N : Names} (h : StandB c w D t v nv s N w') : D < w'.heap.size := hltD h.box
theorem StandB.call {c : PR} {w w' wn : World} {D : Nat} {t : Tm} {v nv nv1 : Value} {s s1 : XS} {N N1 : Names} (h : StandB c w D t v nv s N w') (hs : RS c nv1 s1 wn) (hn : NR wn nv1 N1) (hf : Fw c w' wn) : StandB c w D t v nv1 s1 N1 wn :=
  ⟨(hf.block _ h.lt (fun e => by have := Option.some.inj e; have := h.hR; have := h.hD; omega)).trans h.box, (hf.block _ (hltD h.res) (fun e => by have := Option.some.inj e; have := h.hR; omega)).trans h.res, hs, hn, h.fr.trans hf, h.hR, h.hD⟩
theorem StandB.keepn {c : PR} {w w' wn : World} {D : Nat} {t : Tm} {v nv : Value} {s s1 : XS} {N : Names} (h : StandB c w D t v nv s N w') (hs : RS c nv s1 wn) (hf : Fw c w' wn) : StandB c w D t v nv s1 N wn := h.call hs (h.nm.fw h.st hf) hf
theorem StandB.same {c : PR} {w w' wn : World} {D : Nat} {t : Tm} {v nv : Value} {s : XS} {N : Names} (h : StandB c w D t v nv s N w') (hg : w'.grownBy wn none) : StandB c w D t v nv s N wn := h.keepn (h.st.same hg) (Fw.same (Fw.refl c w') hg)
theorem row_fw {c : PR} {w w' wn : World} {row : Option Nat} (h : Fw c w w') (hg : w'.grownBy wn row) (hb : ∀ b, row = some b → w.heap.size ≤ b) : Fw c w wn :=
  ⟨hg.os.trans h.os, hg.tape.trans h.tape, hg.output.trans h.output, Nat.le_trans h.size hg.size, fun k hk hne => (hg.block k (Nat.lt_of_lt_of_le hk h.size) (fun e => by have := hb k e.symm; omega)).trans (h.block k hk hne)⟩
theorem StandB.row {c : PR} {w w' wn : World} {D : Nat} {t : Tm} {v nv : Value} {s : XS} {N : Names} (h : StandB c w D t v nv s N w') {row : Option Nat} (hg : w'.grownBy wn row) (hb : ∀ b, row = some b → D + 1 ≤ b ∧ ∃ cs fz, w'.heap[b]? = some (Obj.cells cs 26 fz)) : StandB c w D t v nv s N wn :=
  ⟨(hg.block _ h.lt (fun e => by have := (hb _ e.symm).1; omega)).trans h.box, (hg.block _ (hltD h.res) (fun e => by have := (hb _ e.symm).1; have := h.hD; omega)).trans h.res, h.st.term hg (fun b e => (hb b e).2), h.nm.other hg (fun b e => (hb b e).2), row_fw h.fr hg (fun b e => by have := (hb b e).1; have := h.hD; omega), h.hR, h.hD⟩
theorem set_gr (w : World) (D q : Nat) (x : Value) : w.grownBy (w.setCell ⟨D, q, none⟩ x) (some D) := grown_at ⟨rfl, rfl, rfl, Nat.le_refl _, fun _ _ _ => rfl⟩ q x
theorem StandB.put {c : PR} {w w' : World} {D : Nat} {t t' : Tm} {v v' nv : Value} {s : XS} {N : Names} (h : StandB c w D t v nv s N w') (q : Nat) (x : Value) (hb : (w'.setCell ⟨D, q, none⟩ x).heap[D]? = some (boxOf t' v')) : StandB c w D t' v' nv s N (w'.setCell ⟨D, q, none⟩ x) := by
  have hg := set_gr w' D q x
  have hT : ∀ b, some D = some b → ∃ cs fz, w'.heap[b]? = some (Obj.cells cs 26 fz) := fun b e => by obtain rfl := Option.some.inj e; exact ⟨_, _, h.box⟩
  exact ⟨hb, (hg.block _ (hltD h.res) (fun e => by have := Option.some.inj e; have := h.hD; omega)).trans h.res, h.st.term hg hT, h.nm.other hg hT, row_fw h.fr hg (fun b e => by obtain rfl := Option.some.inj e; have := h.hD; omega), h.hR, h.hD⟩
theorem StandB.seti {c : PR} {w w' : World} {D : Nat} {k i j n : Int} {v nv : Value} {s : XS} {N : Names} (h : StandB c w D (.mk k i j n []) v nv s N w') (x : Int) : StandB c w D (.mk k x j n []) v nv s N (w'.setCell ⟨D, 1, none⟩ (.int .i64 x)) := h.put 1 _ (heap_setCell_same _ _ 1 _ _ _ h.box)
theorem StandB.setj {c : PR} {w w' : World} {D : Nat} {k i j n : Int} {v nv : Value} {s : XS} {N : Names} (h : StandB c w D (.mk k i j n []) v nv s N w') (x : Int) : StandB c w D (.mk k i x n []) v nv s N (w'.setCell ⟨D, 2, none⟩ (.int .i64 x)) := h.put 2 _ (heap_setCell_same _ _ 2 _ _ _ h.box)
theorem StandB.setn {c : PR} {w w' : World} {D : Nat} {k i j n : Int} {v nv : Value} {s : XS} {N : Names} (h : StandB c w D (.mk k i j n []) v nv s N w') (x : Int) : StandB c w D (.mk k i j x []) v nv s N (w'.setCell ⟨D, 3, none⟩ (.int .i64 x)) := h.put 3 _ (heap_setCell_same _ _ 3 _ _ _ h.box)
theorem StandB.setv {c : PR} {w w' : World} {D : Nat} {t : Tm} {v nv : Value} {s : XS} {N : Names} (h : StandB c w D t v nv s N w') (x : Value) : StandB c w D t x nv s N (w'.setCell ⟨D, 4, none⟩ x) := h.put 4 _ (heap_setCell_same _ _ 4 _ _ _ h.box)
/-- The end: the term is stored as the result. -/
theorem tend {c : PR} {w w' : World} {x : Tm} {sv nv : Value} {s : XS} {N : Names} {D : Nat} (hr : w'.heap[w.heap.size]? = some zeroObj) (hs : RS c nv s w') (hn : NR w' nv N) (hf : Fw c w w') (hD : w.heap.size < D) (hl : LiesP w' (Own D w') x.kids sv) (hfi : x.fine) :
    TermG c N w (x, s) (.returned (tv x sv)) (five w' w.heap.size (.int .i64 x.k) (.int .i64 x.i) (.int .i64 x.j) (.int .i64 x.n) sv) := by
  have hg : w'.grownBy (five w' w.heap.size (.int .i64 x.k) (.int .i64 x.i) (.int .i64 x.j) (.int .i64 x.n) sv) (some w.heap.size) := ((((set_gr _ _ _ _).trans (set_gr _ _ _ _)).trans (set_gr _ _ _ _)).trans (set_gr _ _ _ _)).trans (set_gr _ _ _ _)
  have hT : ∀ b, some w.heap.size = some b → ∃ cs fz, w'.heap[b]? = some (Obj.cells cs 26 fz) := fun b e => by obtain rfl := Option.some.inj e; exact ⟨_, _, hr⟩
  exact ⟨sv, nv, rfl, liesP_fives hl hD (by omega) _ _ _ _ _, hfi, hs.term hg hT, hn.other hg hT, row_fw hf hg (fun b e => by obtain rfl := Option.some.inj e; exact Nat.le_refl _)⟩
theorem tend_zero {c : PR} {w w' : World} {nv : Value} {s : XS} {N : Names} (hs : RS c nv s w') (hn : NR w' nv N) (hf : Fw c w w') : TermG c N w (Tm.zero, s) (.returned (tv Tm.zero (.slice none 0 0))) w' := ⟨_, nv, rfl, liesP_nil _ _, zero_fine, hs, hn, hf⟩
theorem tend_zero5 {c : PR} {w w' : World} {nv : Value} {s : XS} {N : Names} (hr : w'.heap[w.heap.size]? = some zeroObj) (hs : RS c nv s w') (hn : NR w' nv N) (hf : Fw c w w') : TermG c N w (Tm.zero, s) (.returned (tv Tm.zero (.slice none 0 0))) (five w' w.heap.size (.int .i64 0) (.int .i64 0) (.int .i64 0) (.int .i64 0) (.slice none 0 0)) :=
  tend (D := w.heap.size + 1) (x := Tm.zero) hr hs hn hf (by omega) (liesP_nil _ _) zero_fine
end Go.Proofs.YtpekceadjcbphaaDoor.Rt
