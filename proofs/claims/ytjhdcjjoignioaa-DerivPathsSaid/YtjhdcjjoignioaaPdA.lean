/-
  Texts that DerivPaths stands on, in one: DPathF, DPathW, DPathX, TakeD, DAtM.
-/
import Derived.Test.YtjhdcjjoignioaaDAt
import Derived.Test.YtjhdcjjoignioaaDRight
import Derived.Test.YtjhdcjjoignioaaDDeep
import Derived.Test.YtjhdcjjoignioaaInts
import Derived.Deep.AppendLies
import Derived.Test.YtjhdcjjoignioaaDDesk
import Derived.Maps.AppendAt
import Derived.Laws.AppendOwnNone
import Derived.OrdersHeld
import Derived.KernelRfl
/-! Plain facts on what stands at a path of a derivation. -/
namespace Go.Proofs.Ytjhdcjjoignioaa.Dv
open Go.RowKit

theorem at_cons (t : Tm) (k : Int) (r : List Int) : t.at (k :: r) = if 0 ≤ k ∧ k < t.kids.length then ((t.kids[k.toNat]?).getD .zero).at r else none := rfl
theorem at_snoc (i : Int) : ∀ (p : List Int) (t : Tm), t.at (p ++ [i]) = (t.at p).bind (fun x => x.at [i])
  | [], t => rfl
  | k :: r, t => by
    rw [List.cons_append, at_cons, at_cons]
    by_cases h : 0 ≤ k ∧ k < t.kids.length
    · rw [if_pos h, if_pos h]; exact at_snoc i r _
    · rw [if_neg h, if_neg h]; rfl
theorem at_one {x : Tm} {k : Nat} (h : k < x.kids.length) : x.at [(k : Int)] = some x.kids[k] := by
  rw [at_cons, if_pos (by omega), show ((k : Int)).toNat = k by omega, List.getElem?_eq_getElem h]; rfl
theorem at_none {x : Tm} {i : Int} (h : ¬ (0 ≤ i ∧ i < x.kids.length)) : x.at [i] = none := by rw [at_cons, if_neg h]
/-- What holds of a derivation and goes on to each kid holds at each path. -/
theorem at_carry {P : Nat → Tm → Prop} (step : ∀ n t (k : Nat) (h : k < t.kids.length), P n t → P (n + 1) t.kids[k]) : ∀ (p : List Int) (n : Nat) (t x : Tm), P n t → t.at p = some x → P (n + p.length) x
  | [], n, t, x, hp, h => by cases h; exact hp
  | k :: r, n, t, x, hp, h => by
    rw [at_cons] at h
    by_cases hc : 0 ≤ k ∧ k < t.kids.length
    · rw [if_pos hc] at h
      have hk : k.toNat < t.kids.length := by omega
      rw [List.getElem?_eq_getElem hk] at h
      have := at_carry step r (n + 1) _ x (step n t k.toNat hk hp) h
      rw [List.length_cons, show n + (r.length + 1) = n + 1 + r.length by omega]
      exact this
    · rw [if_neg hc] at h; cases h
theorem kid_right {t : Tm} (h : t.rightB = true) (k : Nat) (hk : k < t.kids.length) : (t.kids[k]).rightB = true := by
  rw [t.rightB_eq, Bool.and_eq_true] at h
  cases hx : (t.kids[k]).rightB with
  | true => rfl
  | false => have := rights_of _ _ hk hx; rw [this] at h; exact absurd h.2 (by simp)
theorem kid_size (t : Tm) (k : Nat) (hk : k < t.kids.length) : (t.kids[k]).size + 1 ≤ t.size := by
  have h1 := sizes_take t.kids k hk
  have h2 := sizes_le t.kids (k + 1)
  have h3 := t.size_eq
  omega
theorem deeps_kid : ∀ (l : List Tm) (k : Nat) (h : k < l.length), (l[k]).deep ≤ deeps l
  | a :: r, 0, _ => by simp only [deeps, List.getElem_cons_zero]; omega
  | a :: r, k + 1, h => by
    have := deeps_kid r k (by simpa using h)
    simp only [deeps, List.getElem_cons_succ]; omega
theorem at_right {t x : Tm} {p : List Int} (h : t.rightB = true) (hx : t.at p = some x) : x.rightB = true :=
  at_carry (P := fun _ t => t.rightB = true) (fun _ _ k hk h => kid_right h k hk) p 0 t x h hx
theorem at_size {t x : Tm} {p : List Int} (hx : t.at p = some x) : x.size ≤ t.size :=
  at_carry (P := fun _ y => y.size ≤ t.size) (fun _ y k hk h => by have := kid_size y k hk; omega) p 0 t x (Nat.le_refl _) hx
theorem at_deep {t x : Tm} {p : List Int} (hx : t.at p = some x) : x.deep + p.length ≤ t.deep := by
  have := at_carry (P := fun n y => y.deep + n ≤ t.deep) (fun n y k hk h => by have h1 := deeps_kid y.kids k hk; have h2 := y.deep_eq; omega) p 0 t x (Nat.le_refl _) hx
  omega
/-- What stands one step further: a kid, or nothing. -/
theorem at_two {t x : Tm} {l : List Int} (h : t.at l = some x) (i : Int) : ∃ (Y : Tm) (b : Bool), ((b = true ∧ t.at (l ++ [i]) = some Y) ∨ (b = false ∧ t.at (l ++ [i]) = none ∧ Y = .zero)) ∧
    ((b = true ∧ ∃ (k : Nat) (hk : k < x.kids.length), i = (k : Int) ∧ Y = x.kids[k]) ∨ (b = false ∧ ¬ (0 ≤ i ∧ i < x.kids.length))) := by
  have hs : t.at (l ++ [i]) = x.at [i] := by rw [at_snoc, h]; rfl
  by_cases hc : 0 ≤ i ∧ i < x.kids.length
  · obtain ⟨k, rfl⟩ : ∃ k : Nat, i = (k : Int) := ⟨i.toNat, by omega⟩
    have hk : k < x.kids.length := by omega
    exact ⟨x.kids[k], true, .inl ⟨rfl, by rw [hs, at_one hk]⟩, .inl ⟨rfl, k, hk, rfl, rfl⟩⟩
  · exact ⟨.zero, false, .inr ⟨rfl, by rw [hs, at_none hc], rfl⟩, .inr ⟨rfl, hc⟩⟩
end Go.Proofs.Ytjhdcjjoignioaa.Dv

/-! Rows of ints that a call owns: what DerivPaths appends. -/
namespace Go.Proofs.Ytjhdcjjoignioaa.Dv
open Go.RowKit

theorem own_empty {B : Nat} {w : World} (h : B ≤ w.heap.size) : (w.alloc (.cells #[] 3)).ownsRow B 3 1 (.slice (some ⟨w.heap.size, 0, none⟩) 0 0) 0 [] :=
  ⟨rfl, Or.inr ⟨w.heap.size, 0, _, rfl, h, alloc_new _ _, Nat.le_refl _, by decide, rfl, rfl⟩⟩
theorem own_open {B g n c : Nat} {w : World} {xs : List Value} (h : w.ownsRow B 3 1 (.slice (some ⟨g, 0, none⟩) n c) n xs) :
    xs.length = n ∧ B ≤ g ∧ ∃ cur, w.heap[g]? = some (.cells cur 3 (0, 0)) ∧ n ≤ c ∧ c ≤ maxLen ∧ cur.size = c ∧ cur.toList.take n = xs := by
  obtain ⟨h0, ⟨h1, -⟩ | ⟨g', cap, cur, h1, h2, h3, h4, h5, h6, h7⟩⟩ := h
  · cases h1
  · simp only [Value.slice.injEq, Option.some.injEq, Addr.mk.injEq] at h1
    obtain ⟨⟨rfl, -, -⟩, -, rfl⟩ := h1
    exact ⟨by simpa using h0, h2, cur, h3, h4, h5, by simpa using h6, by simpa using h7⟩
theorem own_lt {B g n c : Nat} {w : World} {xs : List Value} (h : w.ownsRow B 3 1 (.slice (some ⟨g, 0, none⟩) n c) n xs) : g < w.heap.size := by
  obtain ⟨-, -, cur, h3, -⟩ := own_open h
  exact (Array.getElem?_eq_some_iff.1 h3).1
theorem own_keep {B g n c : Nat} {w w' : World} {xs : List Value} (h : w.ownsRow B 3 1 (.slice (some ⟨g, 0, none⟩) n c) n xs) (hb : w'.heap[g]? = w.heap[g]?) : w'.ownsRow B 3 1 (.slice (some ⟨g, 0, none⟩) n c) n xs := by
  obtain ⟨h1, h2, cur, h3, h4, h5, h6, h7⟩ := own_open h
  exact ⟨by simpa using h1, Or.inr ⟨g, c, cur, rfl, h2, hb.trans h3, h4, h5, by simpa using h6, by simpa using h7⟩⟩
theorem own_lies {B g c : Nat} {w : World} {l : List Int} (h : w.ownsRow B 3 1 (.slice (some ⟨g, 0, none⟩) l.length c) l.length (l.map fun i => .int .i64 i)) : LiesI w l (.slice (some ⟨g, 0, none⟩) l.length c) := by
  obtain ⟨-, -, cur, h3, h4, h5, h6, h7⟩ := own_open h
  refine ⟨some ⟨g, 0, none⟩, c, rfl, h4, h5, fun i hi => ⟨g, 0, rfl, ?_⟩⟩
  have hc : cur.toList[i]? = some (.int .i64 l[i]) := by
    have h8 : (cur.toList.take l.length)[i]? = some (.int .i64 l[i]) := by rw [h7]; simp [hi]
    rwa [List.getElem?_take_of_lt hi] at h8
  rw [Nat.zero_add, cell_of_row w g i cur _ _ h3]
  simpa using hc
end Go.Proofs.Ytjhdcjjoignioaa.Dv

/-! What the walk of DerivPaths keeps of its worlds. -/
namespace Go.Proofs.Ytjhdcjjoignioaa.Dv
open Go.RowKit

theorem info_int : (Try.prog.info? 3).map (fun i => (i.zero, i.size, i.bytes)) = some (some (.int .i64 0), 1, 8) := by kernel_rfl
def Kp (w w' : World) : Prop := Below w.heap.size w w'
theorem kp_start (w : World) : Kp w w := Below.refl _ _
theorem kp_drew {w w1 : World} (h : Kp w w1) : Kp w w1.drew := Below.drew h
theorem kp_call {w w1 w2 : World} (h : Kp w w1) (hb : Below w1.heap.size w1 w2) : Kp w w2 := Below.trans h (hb.mono (Below.size h))
theorem kp_lies {w w1 : World} (h : Kp w w1) {l : List Tm} {s : Value} (hl : Lies w l s) : Lies w1 l s := hl.keep h
def Three (v : World) (b : Nat) (t : Tm) (s : Value) : Prop := v.cell? ⟨b, 0, none⟩ = some (.int .i64 t.k) ∧ v.cell? ⟨b, 1, none⟩ = some (.int .i64 t.i) ∧ v.cell? ⟨b, 2, none⟩ = some (s)
def ThreeAt (v : World) (b o : Nat) (t : Tm) (s : Value) : Prop := v.cell? ⟨b, o, none⟩ = some (.int .i64 t.k) ∧ v.cell? ⟨b, o + 1, none⟩ = some (.int .i64 t.i) ∧ v.cell? ⟨b, o + 2, none⟩ = some (s)
theorem Three.keep {v w' : World} {b : Nat} {t : Tm} {s : Value} (h : Three v b t s) (hk : Below v.heap.size v w') : Three w' b t s := ⟨cell_lat hk h.1, cell_lat hk h.2.1, cell_lat hk h.2.2⟩
theorem ThreeAt.keep {v w' : World} {b o : Nat} {t : Tm} {s : Value} (h : ThreeAt v b o t s) (hk : Below v.heap.size v w') : ThreeAt w' b o t s := ⟨cell_lat hk h.1, cell_lat hk h.2.1, cell_lat hk h.2.2⟩
theorem kp_and {v w' : World} {b0 b1 : Nat} {t x : Tm} {st sx : Value} (h : Kp v w') (ht : Three v b0 t st) (hx : Three v b1 x sx) : Kp v w' ∧ w'.cell? ⟨b0, 0, none⟩ = some (.int .i64 t.k) ∧ w'.cell? ⟨b0, 1, none⟩ = some (.int .i64 t.i) ∧ w'.cell? ⟨b0, 2, none⟩ = some (st) ∧ w'.cell? ⟨b1, 0, none⟩ = some (.int .i64 x.k) ∧ w'.cell? ⟨b1, 1, none⟩ = some (.int .i64 x.i) ∧ w'.cell? ⟨b1, 2, none⟩ = some (sx) := by
  obtain ⟨t0, t1, t2⟩ := ht.keep h
  obtain ⟨x0, x1, x2⟩ := hx.keep h
  exact ⟨h, t0, t1, t2, x0, x1, x2⟩
theorem kp_one {v w' : World} {b1 : Nat} {x : Tm} {sx : Value} (h : Kp v w') (hx : Three v b1 x sx) : Kp v w' ∧ w'.cell? ⟨b1, 0, none⟩ = some (.int .i64 x.k) ∧ w'.cell? ⟨b1, 1, none⟩ = some (.int .i64 x.i) ∧ w'.cell? ⟨b1, 2, none⟩ = some (sx) := ⟨h, hx.keep h⟩
theorem kp_nine {v w' : World} {b0 b1 b2 o : Nat} {t x y : Tm} {st sx sy : Value} (h : Kp v w') (ht : Three v b0 t st) (hx : Three v b1 x sx) (hy : ThreeAt v b2 o y sy) : Kp v w' ∧ w'.cell? ⟨b0, 0, none⟩ = some (.int .i64 t.k) ∧ w'.cell? ⟨b0, 1, none⟩ = some (.int .i64 t.i) ∧ w'.cell? ⟨b0, 2, none⟩ = some (st) ∧ w'.cell? ⟨b1, 0, none⟩ = some (.int .i64 x.k) ∧ w'.cell? ⟨b1, 1, none⟩ = some (.int .i64 x.i) ∧ w'.cell? ⟨b1, 2, none⟩ = some (sx) ∧ w'.cell? ⟨b2, o, none⟩ = some (.int .i64 y.k) ∧ w'.cell? ⟨b2, o + 1, none⟩ = some (.int .i64 y.i) ∧ w'.cell? ⟨b2, o + 2, none⟩ = some (sy) := by
  obtain ⟨t0, t1, t2⟩ := ht.keep h
  obtain ⟨x0, x1, x2⟩ := hx.keep h
  obtain ⟨y0, y1, y2⟩ := hy.keep h
  exact ⟨h, t0, t1, t2, x0, x1, x2, y0, y1, y2⟩

/-- What the round's first statement leaves: what stands one step further, in a block of its own, and whether anything does. -/
def DoneAt (V : World) (Y : Tm) (b : Bool) (s8 s9 : Value) (w : World) : Prop := ∃ (z : Nat) (aY : Option Addr) (cY : Nat), s8 = .pointer (some ⟨z, 0, none⟩) ∧ s9 = .bool b ∧ V.heap.size ≤ z ∧
  w.heap[z]? = some (.cells #[.int .i64 Y.k, .int .i64 Y.i, .slice aY Y.kids.length cY] 53 (0, 0)) ∧ Lies w Y.kids (.slice aY Y.kids.length cY) ∧ Kp V w
theorem done_at {V wd : World} {Y : Tm} {z : Nat} {aY : Option Addr} {cY : Nat} (hk : Kp V wd) (hz : V.heap.size ≤ z) (hZ : wd.heap[z]? = some (.cells #[.int .i64 0, .int .i64 0, .slice none 0 0] 53 (0, 0)))
    (hY : LiesP wd (fun b => b ≠ z) Y.kids (.slice aY Y.kids.length cY)) (b : Bool) : DoneAt V Y b (.pointer (some ⟨z, 0, none⟩)) (.bool b) (five wd z (.int .i64 Y.k) (.int .i64 Y.i) (.slice aY Y.kids.length cY)) :=
  ⟨z, aY, cY, rfl, rfl, hz, five_set hZ, (hY.keep (Q := fun b => b ≠ z) (fun _ hp _ => five_other _ _ _ _ _ hp) (fun _ hp _ => hp)).lies, below_five hk hz _ _ _⟩

theorem own_lies1 {B g c : Nat} {w : World} {l : List Int} {i : Int} (h : w.ownsRow B 3 1 (.slice (some ⟨g, 0, none⟩) (l.length + 1) c) (l.length + 1) ((l.map fun i => .int .i64 i) ++ [.int .i64 i])) : LiesI w (l ++ [i]) (.slice (some ⟨g, 0, none⟩) (l.length + 1) c) := by
  have h1 : l.length + 1 = (l ++ [i]).length := by simp
  have h2 : (l.map fun i => Value.int .i64 i) ++ [.int .i64 i] = (l ++ [i]).map fun i => Value.int .i64 i := by simp
  rw [h1, h2] at h
  rw [h1]
  exact own_lies h
theorem ints_news {w : World} {l : List Int} {b o c : Nat} (h : LiesI w l (.slice (some ⟨b, o, none⟩) l.length c)) : ∀ j u, (l.map fun i => Value.int .i64 i)[j]? = some u → w.cell? ((⟨b, o, none⟩ : Addr).add j) = some u := by
  intro j u hj
  obtain ⟨a, cap, hs, -, -, hn⟩ := h.out
  simp only [Value.slice.injEq] at hs
  obtain ⟨rfl, -, rfl⟩ := hs
  have hj' : j < l.length := by
    have := (List.getElem?_eq_some_iff.1 hj).1
    simpa using this
  obtain ⟨b', o', ha, hx⟩ := hn j hj'
  simp only [Option.some.injEq, Addr.mk.injEq, and_true] at ha
  obtain ⟨rfl, rfl⟩ := ha
  have : (⟨b, o, none⟩ : Addr).add j = ⟨b, o + j, none⟩ := by simp [Addr.add]
  rw [this, hx]
  rw [List.getElem?_map, List.getElem?_eq_getElem hj'] at hj
  exact hj
theorem ints_one (l : List Int) : ∀ u ∈ l.map (fun i => Value.int .i64 i), u.oneCell' = true := by
  intro u hu
  obtain ⟨i, -, rfl⟩ := List.mem_map.1 hu
  rfl
theorem int_one (i : Int) : ∀ u ∈ [Value.int .i64 i], u.oneCell' = true := ints_one [i]
theorem own_keepv {B n : Nat} {v : Value} {w w' : World} {xs : List Value} (h : w.ownsRow B 3 1 v n xs) (hb : ∀ k, v.ownBlock = some k → w'.heap[k]? = w.heap[k]?) : w'.ownsRow B 3 1 v n xs := by
  obtain ⟨h1, h2⟩ := h
  refine ⟨h1, ?_⟩
  rcases h2 with h2 | ⟨g, cap, cur, rfl, h3, h4, h5⟩
  · exact Or.inl h2
  · exact Or.inr ⟨g, cap, cur, rfl, h3, (hb g rfl).trans h4, h5⟩
section
variable {P : Program}
theorem run_append_owned_nil {w : World} (base : Nat) (t ty e : TypeId) (i : TypeInfo) (size : Nat) (c : Nat) (ht : P.underlying t = some (.slice e)) (hi : P.info? e = some i)
    (v : Value) (n : Nat) (xs : List Value) (hown : w.ownsRow base e size v n xs) :
    (Builtin.append_ #[t, t] ty #[v, .slice none 0 c]).run P w = .ok v w := by
  rcases hown.2 with ⟨rfl, rfl⟩ | ⟨g, cap, cur, rfl, _, _, hnc, _⟩
  · simp [Builtin.append_, run_underlying ht, sizeOf, typeInfo, hi, Builtin.lenOf, Builtin.firstCells]
  · simp [Builtin.append_, run_underlying ht, sizeOf, typeInfo, hi, Builtin.lenOf, Builtin.firstCells, hnc, storeCells]
end
/-- A path is appended to a row of the call's own; it may be empty. -/
theorem step_append_path {ops : Array Oper} {o : Oper} {a : Act} {w : World} {K : Act → World → Prop} {Q : Exit → Act → World → Prop} {E : Prop} (hgd : o.guard = none) (s x : Operand)
    (ho : o.op = .call { callee := .builtin .append, args := #[s, x], argTypes := #[54, 54] }) (B : Nat)
    (i : TypeInfo) (hi : Try.prog.info? 3 = some i) (hz : i.zero = some (.int .i64 0)) (hsize : i.size = 1) (hby : i.bytes = 8)
    (v : Value) (hs : a.eval s = v) (hown : w.ownsRow B 3 1 v 0 []) (l : List Int) (r : Value) (hx : a.eval x = r) (hl : LiesI w l r) (hle : l.length ≤ 200) (hbase : B ≤ w.heap.size)
    (h : ∀ v' w', w'.ownsRow B 3 1 v' l.length (l.map fun i => .int .i64 i) → w.grownBy w' v.ownBlock → (v'.ownBlock = v.ownBlock ∨ v'.ownBlock = some w.heap.size) → K (a.put o.dst v') w') :
    if Region.wanted o (yielded ops a.tmps) = true then Oper.wp Try.prog o a w K Q else E := by
  have hw : Region.wanted o (yielded ops a.tmps) = true := by simp [Region.wanted, hgd]
  rw [if_pos hw]
  obtain ⟨ra, rc, rfl, hc, hm, hn⟩ := hl.out
  have ht : Try.prog.underlying 54 = some (.slice 3) := by kernel_rfl
  obtain ⟨v', w', hr, h2, h3, h4⟩ : ∃ v' w', (Builtin.append_ #[54, 54] o.type #[v, .slice ra l.length rc]).run Try.prog w = .ok v' w' ∧ w'.ownsRow B 3 1 v' l.length (l.map fun i => .int .i64 i) ∧ w.grownBy w' v.ownBlock ∧ (v'.ownBlock = v.ownBlock ∨ v'.ownBlock = some w.heap.size) := by
    cases ra with
    | none =>
      have h0 : l = [] := by
        cases l with
        | nil => rfl
        | cons y r => obtain ⟨b, o, hb, -⟩ := hn 0 (by simp); cases hb
      subst h0
      exact ⟨v, w, run_append_owned_nil B _ _ _ i 1 rc ht hi v 0 [] hown, hown, ⟨rfl, rfl, rfl, Nat.le_refl _, fun _ _ _ => rfl⟩, .inl rfl⟩
    | some ad =>
      obtain ⟨v', w', hr, h2, h3, -, h5⟩ := run_append_own_at (P := Try.prog) w B 54 o.type 3 i (.int .i64 0) 1 8 ht hi hz hsize hby rfl (by decide) v 0 [] hown ad l.length rc (l.map fun i => .int .i64 i) (by simp)
        (by
          cases l with
          | nil => intro j u hj; simp at hj
          | cons y r =>
            obtain ⟨b, o, hb, -⟩ := hn 0 (by simp)
            cases hb
            exact ints_news hl) (ints_one l) (by unfold maxLen; omega) (by omega) hbase
      exact ⟨v', w', hr, by simpa using h2, h3, h5⟩
  unfold Oper.wp execOp
  simp only [ho, resolve, invoke, builtin, Sem.run_bind, Sem.run_pure, Result.andThen_ok, List.map_toArray, List.map_cons, List.map_nil, hs, hx, hr]
  exact h v' w' h2 h3 h4
end Go.Proofs.Ytjhdcjjoignioaa.Dv

/-! An operation of a drawn region, taken ahead by its number, its slot and its name. -/
namespace Go.Proofs.Ytjhdcjjoignioaa
open Go

theorem take_at {P : Program} {ops : Array Oper} {Q : Exit → Act → World → Prop} {md : Region.Mode} {S : World → Prop} (i d : Nat) (oi : Oper) {v : Value} {fuel : Nat} {listed : Array Bool} {a : Act} {w : World} (hy : YieldsIf P ops S oi v a)
    (h : wpAnyH P md ops Q S fuel (listed.setIfInBounds i true) (a.put (some d) v) w)
    (hi : ops[i]? = some oi := by rfl) (hd : oi.dst = some d := by rfl)
    (hs : Region.noSelect ops = true := by kernel_rfl) (hf : Region.free md ops listed i = true := by kernel_rfl) (hr : (Region.ready md ops listed).contains i = true := by kernel_rfl)
    (hQ : ∀ c a w, Q (.panic c) (a.put (some d) v) w → Q (.panic c) a w := by exact fun _ _ _ h => h) (hS : S w := by assumption) : wpAnyH P md ops Q S (fuel + 1) listed a w := by
  rw [← hd] at hQ h
  exact wpAnyH_take hi hs hf hr hQ hy hS h
end Go.Proofs.Ytjhdcjjoignioaa

/-! deriv.At once more: what it hands back lies in new memory. -/
namespace Go.Proofs.Ytjhdcjjoignioaa.Dv
open Go.RowKit

def AtSomeM (u : Tm) (w : World) (e : Ending) (w' : World) : Prop := (∃ s' : Value, e = .returned (.tuple #[tv u s', .bool true]) ∧ LiesP w' (Own w.heap.size w') u.kids s') ∧ Below w.heap.size w w'
def GivesAtM : Option Tm → World → Ending → World → Prop
  | some u => AtSomeM u
  | none => AtNone
/-- Both answers in one. -/
def AtBoth (Y : Tm) (b : Bool) (w : World) (e : Ending) (w' : World) : Prop := (∃ s' : Value, e = .returned (.tuple #[tv Y s', .bool b]) ∧ LiesP w' (Own w.heap.size w') Y.kids s') ∧ Below w.heap.size w w'

set_option maxRecDepth 20000 in
set_option maxHeartbeats 2000000 in
theorem datm_any (t : Tm) (l : List Int) (w : World) (s r : Value) (hl : Lies w t.kids s) (hp : LiesI w l r) (hsz : t.size ≤ 1000000) : Calls Try.prog 33 #[tv t s, r] w (GivesAtM (t.at l) w) := by
  obtain ⟨a, cap, S, rfl, -⟩ := hl.out
  obtain ⟨pa, pcap, rfl, pc, pm, pn⟩ := hp.out
  unfold tv
  unfold maxLen at pm
  obtain ⟨du, hu1, hu2⟩ := under_term
  have H0 := two_start w t (.slice a t.kids.length cap)
  have PN := Lib.hid pn
  have HL := Lib.hid hl
  have HSZ := Lib.hid hsz
  obtain ⟨V, hV⟩ : ∃ V, t.at l = V := ⟨_, rfl⟩
  have HV := Lib.hid hV
  rw [hV]
  clear hV pn hl hp hsz
  go_enter Try.func33, Try.ntmps33
  go_wp2_with fail
  go_loopw [10] (fun iv wr => ∃ (p : Nat) (u : Tm) (au : Option Addr) (cu : Nat), p ≤ l.length ∧ iv = .int .i64 p ∧ Hid (u.at (l.drop p) = V) ∧ Hid (u.size ≤ 1000000) ∧ Hid (Lies w u.kids (.slice au u.kids.length cu)) ∧ Two w u (.slice au u.kids.length cu) wr) (fun iv _ => l.length - (intOf iv).toNat)
  case atStart => exact ⟨0, t, a, cap, Nat.zero_le _, rfl, HV.out, HSZ.out, HL.out, H0⟩
  case round =>
    clear H0 HV HSZ HL
    obtain ⟨p, u, au, cu, hp0, rfl, hV, hsz, hl, h2⟩ := hrel
    obtain ⟨d0, d1, d2⟩ := five_cells h2.cur
    obtain ⟨z0, z1, z2⟩ := five_cells h2.res
    obtain ⟨f0, f1, f2⟩ := five_free h2.res
    obtain ⟨g0, g1, g2⟩ := five_free h2.cur
    by_cases hlt : p < l.length
    · obtain ⟨pb, po, rfl, hx⟩ := PN.out p hlt
      have hc := (h2.below.cell (World.block_lt_of_cell? _ _ hx)).trans hx
      obtain ⟨x, hxe⟩ : ∃ x, l[p] = x := ⟨_, rfl⟩
      rw [hxe] at hc
      by_cases hin : 0 ≤ x ∧ x < u.kids.length
      · obtain ⟨k, rfl⟩ : ∃ k : Nat, x = (k : Int) := ⟨x.toNat, by omega⟩
        have hk : k < u.kids.length := by omega
        have e1 : decide ((k : Int) < 0) = false := decide_eq_false (by omega)
        have e2 : decide ((u.kids.length : Int) ≤ (k : Int)) = false := decide_eq_false (by omega)
        have j1 : (k : Int) < (u.kids.length : Int) := by omega
        obtain ⟨ua, ucap, US, hus, uc, um, uf, un, uk⟩ := hl.out.out
        obtain ⟨b, o, hab, hy⟩ := un k hk
        simp only [Value.slice.injEq] at hus
        obtain ⟨rfl, -, rfl⟩ := hus
        subst hab
        obtain ⟨y0, y1, y2⟩ := hy.below h2.below hy.lt
        have hkl := uk k hk
        obtain ⟨a', cap', S', hS, -⟩ := hkl.out
        rw [hS] at hkl y2
        have hst := at_step hlt hk hxe
        have HST := Lib.hid (hst.symm.trans hV.out)
        have HKS := Lib.hid (show (u.kids[k]).size ≤ 1000000 by have := size_mem u.kids _ (List.getElem_mem hk); have := u.size_eq; have := hsz.out; omega)
        have HKL := Lib.hid hkl
        have H3 := two_set (u := u.kids[k]) (su := .slice a' u.kids[k].kids.length cap') h2
        have HH := Lib.hid h2
        clear hS hkl hst h2 hl hsz hV hin hx hy uf un uk uc um hxe
        go_wp2
        go_roundw
        case rel => exact ⟨p + 1, u.kids[k], a', cap', hlt, by go_num, HST.out, HKS.out, HKL.out, H3⟩
        case measure => simp [intOf]; omega
      · have hst := at_out hlt (by rw [hxe]; exact hin)
        have HVN := Lib.hid (hV.out.symm.trans hst)
        have hb := h2.below
        have hr := h2.res
        clear hst hV hl hsz
        by_cases hneg : x < 0
        · have e1 : decide (x < 0) = true := decide_eq_true hneg
          go_wp2
          refine bodyPost_ret (results_cell_tmp rfl _ _ (w.heap.size + 1) _ _ _ du rfl (five_set hr) hu1 (by cases du <;> first | rfl | exact hu2) size_term) rfl ?_
          rw [HVN.out]
          exact ⟨rfl, below_five hb (by omega) _ _ _⟩
        · have e1 : decide (x < 0) = false := decide_eq_false hneg
          have e2 : decide ((u.kids.length : Int) ≤ x) = true := decide_eq_true (by omega)
          go_wp2
          refine bodyPost_ret (results_cell_tmp rfl _ _ (w.heap.size + 1) _ _ _ du rfl (five_set hr) hu1 (by cases du <;> first | rfl | exact hu2) size_term) rfl ?_
          rw [HVN.out]
          exact ⟨rfl, below_five hb (by omega) _ _ _⟩
    · have : p = l.length := by omega
      subst this
      have HVS := Lib.hid (show V = some u by rw [← hV.out, List.drop_length]; rfl)
      have hlu := hl.out.keep h2.below
      have hb := h2.below
      have hr := h2.res
      have HR := Lib.hid hr
      have HB := Lib.hid hb
      have HSU := Lib.hid hsz.out
      have HLU := Lib.hid hlu
      clear hV hl hsz h2 hlu hr hb z0 z1 z2 f0 f1 f2
      go_wp2_with fail
      refine (dcopy_any u _ _ HLU.out HSU.out).mono ?_
      rintro e w3 ⟨s3, rfl, hl3, hb3⟩
      obtain ⟨a3, cap3, rfl, -, -⟩ := hl3.out
      have hr3 := (hb3.block (w.heap.size + 1) ((Array.getElem?_eq_some_iff.1 HR.out).1)).trans HR.out
      have hb4 := HB.out.trans (hb3.mono HB.out.size)
      obtain ⟨z0, z1, z2⟩ := five_cells hr3
      obtain ⟨f0, f1, f2⟩ := five_free hr3
      have hs1 : w.heap.size + 1 < wr.heap.size := (Array.getElem?_eq_some_iff.1 HR.out).1
      go_wp2
      refine bodyPost_ret (results_cell_tmp rfl _ _ (w.heap.size + 1) _ _ _ du rfl (five_set hr3) hu1 (by cases du <;> first | rfl | exact hu2) size_term) rfl ?_
      rw [HVS.out]
      exact ⟨⟨_, rfl, liesP_fives (N := w.heap.size) hl3 hs1 (by omega) _ _ _⟩, below_five hb4 (by omega) _ _ _⟩
theorem datb_any (t : Tm) (l : List Int) (w : World) (s r : Value) (hl : Lies w t.kids s) (hp : LiesI w l r) (hsz : t.size ≤ 1000000) (Y : Tm) (b : Bool)
    (h : (b = true ∧ t.at l = some Y) ∨ (b = false ∧ t.at l = none ∧ Y = .zero)) : Calls Try.prog 33 #[tv t s, r] w (AtBoth Y b w) := by
  refine (datm_any t l w s r hl hp hsz).mono ?_
  rcases h with ⟨rfl, h⟩ | ⟨rfl, h, rfl⟩
  · rw [h]; exact fun e w' h => h
  · rw [h]; rintro e w' ⟨rfl, hb⟩; exact ⟨⟨_, rfl, liesP_nil _ _⟩, hb⟩
end Go.Proofs.Ytjhdcjjoignioaa.Dv
