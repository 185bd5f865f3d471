/-
  subst: in, whatever is put.
-/
import Derived.Test.YtmhmengbhdaodaaSubV
import Derived.Deep.RegionLaw
namespace Go.Proofs.Ytmhmengbhdaodaa
open Go.RowKit

theorem GivesN.wide {r : Option Tm} {wi w w' : World} {e : Ending} (h : GivesN r w e w') (hb : Below wi.heap.size wi w) : GivesN r wi e w' := by
  obtain ⟨h1, h2⟩ := h
  refine ⟨hb.trans (h1.mono hb.size), ?_⟩
  rcases h2 with ⟨u, s', h3, h4, h5⟩ | h2
  · exact Or.inl ⟨u, s', h3, h4, h5.from hb.size⟩
  · exact Or.inr h2
theorem GivesN.some {u : Tm} {w w' : World} {e : Ending} (h : GivesN (some u) w e w') : GivesSome u w e w' := by
  obtain ⟨hb, ⟨u', s', h1, h2, h3⟩ | ⟨z, a, n, c, h1, -⟩⟩ := h
  · cases h1; exact ⟨⟨s', h2, h3⟩, hb⟩
  · cases h1
theorem GivesN.none {w w' : World} {e : Ending} (h : GivesN none w e w') : (∃ (z : Tm) (a : Option Addr) (n c : Nat), e = .returned (.tuple #[tv z (.slice a n c), .bool false])) ∧ Below w.heap.size w w' := by
  obtain ⟨hb, ⟨u', s', h1, -⟩ | ⟨z, a, n, c, -, h2⟩⟩ := h
  · cases h1
  · exact ⟨⟨z, a, n, c, h2⟩, hb⟩
theorem int_two (q : Nat) : (q == 2) = ((q : Int) == 2) := by
  by_cases h : q = 2
  · subst h; rfl
  · have h1 : (q == 2) = false := by simpa using h
    have h2 : ((q : Int) == 2) = false := by simp; omega
    rw [h1, h2]
/-- The same, the two answers as one. -/
def GivesY (r : Option Tm) (w : World) (e : Ending) (w' : World) : Prop := ∃ (u : Tm) (a : Option Addr) (n cap : Nat) (ok : Bool), e = .returned (.tuple #[tv u (.slice a n cap), .bool ok]) ∧ Below w.heap.size w w' ∧
  ((ok = true ∧ r = some u ∧ n = u.kids.length ∧ LiesP w' (Own w.heap.size w') u.kids (.slice a n cap)) ∨ (ok = false ∧ r = none))
theorem GivesN.ans {r : Option Tm} {w w' : World} {e : Ending} (h : GivesN r w e w') : GivesY r w e w' := by
  obtain ⟨hb, ⟨u, s', h1, h2, h3⟩ | ⟨z, a, n, c, h1, h2⟩⟩ := h
  · obtain ⟨a, cap, rfl, -, -⟩ := h3.out
    exact ⟨u, a, _, cap, true, h2, hb, Or.inl ⟨rfl, h1, rfl, h3⟩⟩
  · exact ⟨z, a, n, c, false, h2, hb, Or.inr ⟨rfl, h1⟩⟩
theorem GivesY.below {r : Option Tm} {w w' : World} {e : Ending} (h : GivesY r w e w') : Below w.heap.size w w' := by obtain ⟨u, a, n, c, ok, -, hb, -⟩ := h; exact hb
theorem putG_fine {g : Int → Int → Bool → Option Tm} (hg : ∀ v b pl x, 0 ≤ v → v ≤ 2147483647 → 0 ≤ b → g v b pl = some x → x.fine) {t u : Tm} {b : Int} {pl : Bool} (hr : t.rightB = true) (hb : 0 ≤ b) (h : t.putG g b pl = some u) : u.fine := by
  by_cases hk : t.k = 2
  · rw [Tm.putG_var _ _ _ _ hk] at h
    have hv := t.right_var hr hk
    exact hg _ _ _ _ hv.1 hv.2 hb h
  · rw [Tm.putG_node _ _ _ _ hk] at h
    simp only [Option.map_eq_some_iff] at h
    obtain ⟨m, -, rfl⟩ := h
    have := right_fine hr
    exact this
theorem held_and2 {w w' : World} {t : Tm} {s v v2 : Value} {p p2 : Addr} (h : Held w t s w') (hp : w.cell? p = some v) (hp2 : w.cell? p2 = some v2) : Held w t s w' ∧ w'.cell? p = some v ∧ w'.cell? p2 = some v2 ∧ w'.cell? ⟨w.heap.size, 0, none⟩ = some (.int .i64 t.k) ∧ w'.cell? ⟨w.heap.size, 1, none⟩ = some (.int .i64 t.i) ∧ w'.cell? ⟨w.heap.size, 2, none⟩ = some (.int .i64 t.j) ∧ w'.cell? ⟨w.heap.size, 3, none⟩ = some (.int .i64 t.n) ∧ w'.cell? ⟨w.heap.size, 4, none⟩ = some s :=
  ⟨h, cell_lat (held_below h) hp, cell_lat (held_below h) hp2, held_cells h⟩

set_option maxRecDepth 20000 in
set_option maxHeartbeats 4000000 in
theorem in_any (g : Int → Int → Bool → Option Tm) (fid bv : Nat) (I : World → Prop) (hI : ∀ w w' : World, I w → Below w.heap.size w w' → I w')
    (hvar : ∀ (v b : Int) (pl : Bool) (w : World), I w → 0 ≤ v → v ≤ 2147483647 → 0 ≤ b → b ≤ 2000000 → Calls Try.prog 51 #[.agg #[.func (.func fid) #[] #[.pointer (some ⟨bv, 0, none⟩)]], .int .i64 v, .int .i64 b, .bool pl] w (GivesN (g v b pl) w))
    (hfine : ∀ v b pl x, 0 ≤ v → v ≤ 2147483647 → 0 ≤ b → g v b pl = some x → x.fine) (t : Tm) : ∀ (b : Int) (pl : Bool) (wi : World) (s : Value), Lies wi t.kids s → t.rightB = true → 0 ≤ b → b + 2 * t.deep ≤ 1000000 → I wi →
    Calls Try.prog 39 #[.agg #[.func (.func fid) #[] #[.pointer (some ⟨bv, 0, none⟩)]], tv t s, .int .i64 b, .bool pl] wi (GivesN (t.putG g b pl) wi) := by
  induction t using Tm.ind with
  | h t ih =>
    intro b pl wi s hl hr hb hd hi
    obtain ⟨a, cap, S, rfl, hc, hm, hf, hn, hk⟩ := hl.out
    have hde := t.deep_eq
    have hlen := right_len hr
    have hN : (wi.alloc (.cells #[.func (.func fid) #[] #[.pointer (some ⟨bv, 0, none⟩)]] 47)).heap.size = wi.heap.size + 1 := by simp
    have hPc : (wi.alloc (.cells #[.func (.func fid) #[] #[.pointer (some ⟨bv, 0, none⟩)]] 47)).cell? ⟨wi.heap.size, 0, none⟩ = some (.func (.func fid) #[] #[.pointer (some ⟨bv, 0, none⟩)]) := by rw [World.cell?_alloc_at _ _ _ _ rfl]; rfl
    have hbP : Below wi.heap.size wi (wi.alloc (.cells #[.func (.func fid) #[] #[.pointer (some ⟨bv, 0, none⟩)]] 47)) := (Below.refl _ _).alloc (Nat.le_refl _) _
    have hIP := hI _ _ hi hbP
    unfold tv
    unfold maxLen at hm
    obtain ⟨du, hu1, hu2⟩ := under_term
    have HB0 := boxes_start (wi.alloc (.cells #[.func (.func fid) #[] #[.pointer (some ⟨bv, 0, none⟩)]] 47)) t (.slice a t.kids.length cap)
    have HL := Lib.hid hl
    by_cases hk2 : t.k = 2
    · have e2 : (t.k == 2) = true := by simpa using hk2
      have hv := t.right_var hr hk2
      have HEQ := Lib.hid (Tm.putG_var g t b pl hk2)
      have hI2 := hI _ _ hIP (boxes_under HB0)
      have CALL := Lib.hid (hvar t.i b pl _ hI2 hv.1 hv.2 hb (by omega))
      clear hk2 ih hn hk hf hl hIP hI2 hi
      go_enter Try.func39, Try.ntmps39
      go_upto_region 1 with fail
      generalize wi.alloc (.cells #[.func (.func fid) #[] #[.pointer (some ⟨bv, 0, none⟩)]] 47) = w at hN hPc hbP HB0 CALL ⊢
      rw [← hN]
      have HBP := Lib.hid hbP
      have hplt : wi.heap.size < w.heap.size := by omega
      have hplt1 : wi.heap.size < w.heap.size + 1 := by omega
      have HLW := Lib.hid (HL.out.keep hbP)
      clear hbP hN
      go_wp2_with fail
      refine CALL.out.mono ?_
      rintro e w2 ⟨hbn, hg⟩
      have HB2 := boxes_call HB0 hbn
      obtain ⟨-, q1⟩ := boxes_two HB2
      obtain ⟨z0, z1, z2, z3, z4⟩ := five_cells q1
      obtain ⟨f0, f1, f2, f3, f4⟩ := five_free q1
      rcases hg with ⟨u, s', hr', rfl, hlu⟩ | ⟨z, a9, n9, c9, hr', rfl⟩
      · obtain ⟨a2, cap2, rfl, -, -⟩ := hlu.out
        have HLU := Lib.hid hlu
        have HR := Lib.hid hr'
        clear hbn hlu hr'
        go_wp2
        (try simp only [Exit.inBlock, Exit.then])
        refine bodyPost_ret (results_cell_tmp rfl _ _ (w.heap.size + 1) _ _ _ du rfl (five_set q1) hu1 (by cases du <;> first | rfl | exact hu2) size_term) rfl ?_
        refine GivesN.wide ⟨below_five (boxes_under HB2) (by omega) _ _ _ _ _, Or.inl ⟨u, _, HEQ.out.trans HR.out, rfl, liesP_fives HLU.out (by simp <;> omega) (by simp <;> omega) _ _ _ _ _⟩⟩ HBP.out
      · have HR := Lib.hid hr'
        clear hbn hr'
        go_wp2
        (try simp only [Exit.inBlock, Exit.then])
        refine bodyPost_ret (results_cell_tmp rfl _ _ (w.heap.size + 1) _ _ _ du rfl (five_set q1) hu1 (by cases du <;> first | rfl | exact hu2) size_term) rfl ?_
        exact GivesN.wide ⟨below_five (boxes_under HB2) (by omega) _ _ _ _ _, Or.inr ⟨z, a9, n9, c9, HEQ.out.trans HR.out, rfl⟩⟩ HBP.out
    · have e2 : (t.k == 2) = false := by simpa using hk2
      have HEQ := Lib.hid (Tm.putG_node g t b pl hk2)
      have HRK := Lib.hid (t.right_kids hr)
      have IH := Lib.hid ih
      have HN := Lib.hid hn
      have HK := Lib.hid hk
      have HDE := Lib.hid hde
      have hd0 := desk_start (wi.alloc (.cells #[.func (.func fid) #[] #[.pointer (some ⟨bv, 0, none⟩)]] 47)) t t (.slice a t.kids.length cap) (.slice none 0 0)
      clear hk2 ih hn hk hf hr hl hde hi HB0
      by_cases h0 : t.kids.length = 0
      · have h1 : t.kids.length < 1 := by omega
        have HNL := Lib.hid (List.eq_nil_of_length_eq_zero h0)
        clear h0 IH HN HK
        go_enter Try.func39, Try.ntmps39
        go_upto_region 1 with fail
        generalize wi.alloc (.cells #[.func (.func fid) #[] #[.pointer (some ⟨bv, 0, none⟩)]] 47) = w at hN hPc hbP hd0 ⊢
        rw [← hN]
        have HBP := Lib.hid hbP
        have hplt : wi.heap.size < w.heap.size := by omega
        have hplt1 : wi.heap.size < w.heap.size + 1 := by omega
        have HLW := Lib.hid (HL.out.keep hbP)
        clear hbP hN
        go_wp2_with fail
        go_loopw [47] (fun i wr => i = .int .i64 0 ∧ Desk w t t (.slice a t.kids.length cap) (.slice none 0 0) wr) (fun _ _ => 0)
        case atStart => exact ⟨rfl, hd0⟩
        case round =>
          clear hd0
          obtain ⟨rfl, hdk⟩ := hrel
          obtain ⟨q0, q1, q2⟩ := desk_blocks hdk
          obtain ⟨d0, d1, d2, d3, d4⟩ := five_cells q0
          obtain ⟨y0, y1, y2, y3, y4⟩ := five_cells q2
          obtain ⟨z0, z1, z2, z3, z4⟩ := five_cells q1
          obtain ⟨f0, f1, f2, f3, f4⟩ := five_free q1
          clear q0 q2
          go_wp2_with fail
          (try simp only [Exit.inBlock, Exit.then])
          refine bodyPost_ret (results_cell_tmp rfl _ _ (w.heap.size + 1) _ _ _ du rfl (five_set q1) hu1 (by cases du <;> first | rfl | exact hu2) size_term) rfl ?_
          exact GivesN.wide ⟨((((((desk_under hdk).setCell (by simp) _).setCell (by simp) _).setCell (by simp) _).setCell (by simp) _).setCell (by simp) _), Or.inl ⟨.mk t.k t.i t.j t.n [], .slice none 0 0, by rw [HEQ.out, HNL.out]; rfl, rfl, liesP_nil _ _⟩⟩ HBP.out
      · have h0' : 0 < t.kids.length := by omega
        obtain ⟨i0, hi, hz0, hz1, hz2⟩ := info_parts info_term
        have HI := Lib.hid (And.intro hi (And.intro hz0 (And.intro hz1 hz2)))
        have HBase := Lib.hid hb
        clear hi hz0 hz1 hz2 h0
        go_enter Try.func39, Try.ntmps39
        go_upto_region 1 with fail
        generalize wi.alloc (.cells #[.func (.func fid) #[] #[.pointer (some ⟨bv, 0, none⟩)]] 47) = w at hN hPc hbP hd0 hIP ⊢
        rw [← hN]
        have HBP := Lib.hid hbP
        have hplt : wi.heap.size < w.heap.size := by omega
        have hplt1 : wi.heap.size < w.heap.size + 1 := by omega
        have HLW := Lib.hid (HL.out.keep hbP)
        clear hbP hN
        have HPC := Lib.hid hPc
        have HIW := Lib.hid hIP
        clear hIP
        go_wp2_with (at_make; refine wpList_make_full _ rfl _ _ 22 rfl (w.heap.size + 3) 24 i0 _ 5 (by kernel_rfl) HI.out.1 HI.out.2.1 HI.out.2.2.1 _ _ _ _ t.kids.length rfl rfl rfl rfl ?bytes ?max ?base ?next)
        case bytes => rw [HI.out.2.2.2]; omega
        case max => unfold maxLen; omega
        case base => simp
        case next =>
        intro w1 hown hgrow
        have hful := full_made hown
        have hbel : Below (w.heap.size + 3) _ w1 := (Below.refl _ _).grown hgrow (by simp) (by simp)
        have hd1 : Desk w t t _ _ w1 := hbel
        clear hbel hgrow hown
        obtain ⟨q0, q1, q2⟩ := desk_blocks hd1
        obtain ⟨d0, d1, d2, d3, d4⟩ := five_cells q0
        obtain ⟨y0, y1, y2, y3, y4⟩ := five_cells q2
        obtain ⟨f0, f1, f2, f3, f4⟩ := five_free q2
        have hd2 := desk_set (v' := .slice (some ⟨w.heap.size + 3, 0, none⟩) t.kids.length t.kids.length) hd1
        clear q0 q1 q2
        have hf2 := hful.below (b := w.heap.size + 2) (o := 4) (by omega) (.slice (some ⟨w.heap.size + 3, 0, none⟩) t.kids.length t.kids.length)
        clear hd1 hful hd0
        go_wp2_with fail
        go_loopw [47] (fun i wr => ∃ (q : Nat) (xs : List (Tm × Value)), q ≤ t.kids.length ∧ i = .int .i64 q ∧ Hid (xs.length = t.kids.length) ∧ Hid (optK (fun q x => x.putG g (b + bindsN t.k q) (pl || (t.k == 12 && q == 2))) 0 (t.kids.take q) = some ((xs.map (·.1)).take q)) ∧ Full (w.heap.size + 3) wr (w.heap.size + 3) xs ∧ Desk w t t (.slice a t.kids.length cap) (.slice (some ⟨w.heap.size + 3, 0, none⟩) t.kids.length t.kids.length) wr) (fun i _ => t.kids.length - (intOf i).toNat)
        case atStart => exact ⟨0, _, Nat.zero_le _, rfl, List.length_replicate, rfl, hf2, hd2⟩
        case round =>
          clear hf2 hd2 d0 d1 d2 d3 d4 y0 y1 y2 y3 y4 f0 f1 f2 f3 f4
          obtain ⟨q, xs, hq0, rfl, hxl, hxs, hfu, hdk⟩ := hrel
          have HXL := Lib.hid hxl.out
          have HXS := Lib.hid hxs.out
          clear hxl hxs hPc
          obtain ⟨q0, q1, q2⟩ := desk_blocks hdk
          obtain ⟨d0, d1, d2, d3, d4⟩ := five_cells q0
          obtain ⟨y0, y1, y2, y3, y4⟩ := five_cells q2
          obtain ⟨z0, z1, z2, z3, z4⟩ := five_cells q1
          obtain ⟨f0, f1, f2, f3, f4⟩ := five_free q1
          have hsz := desk_size hdk
          have hpc := cell_lat (desk_under hdk) HPC.out
          have hplr : wi.heap.size < wr.heap.size := by omega
          have hs0 : w.heap.size < wr.heap.size := by omega
          clear q0 q2
          by_cases hlt : q < t.kids.length
          · obtain ⟨b', o, rfl, hx⟩ := HN.out q hlt
            have hy := hx.below ((HBP.out.trans ((desk_under hdk).mono HBP.out.size))) hx.lt
            obtain ⟨c0, c1, c2, c3, c4⟩ := hy
            have hq := HK.out q hlt
            obtain ⟨a', cap', S', hS, -⟩ := hq.out
            rw [hS] at c4 hq
            have HM := Lib.hid (List.getElem_mem hlt)
            have hbd := binds_range t.k q
            have hdq := deeps_get t.kids q hlt
            rw [HDE.out] at hd
            have hsum : IntKind.i64.wrap (b + bindsN t.k q) = b + bindsN t.k q := IntWalk.i64_in _ (by omega)
            have hH0 := held_start wr t.kids[q] (.slice a' t.kids[q].kids.length cap')
            have hIr := hI _ _ HIW.out (desk_under hdk)
            have CALL : ∀ w', Held wr t.kids[q] (.slice a' t.kids[q].kids.length cap') w' → Calls Try.prog 39 #[.agg #[.func (.func fid) #[] #[.pointer (some ⟨bv, 0, none⟩)]], tv t.kids[q] (.slice a' t.kids[q].kids.length cap'), .int .i64 (b + bindsN t.k q), .bool (pl || (t.k == 12 && q == 2))] w' (GivesN (t.kids[q].putG g (b + bindsN t.k q) (pl || (t.k == 12 && q == 2))) w') := fun w' h' =>
              IH.out _ HM.out _ _ w' _ (hq.keep (HBP.out.trans (((desk_under hdk).trans ((held_below h').mono (by omega))).mono HBP.out.size))) (HRK.out _ HM.out) (by omega) (by omega) (hI _ _ hIr (held_below h'))
            have HCALL := Lib.hid CALL
            have HFX : Hid (∀ u, t.kids[q].putG g (b + bindsN t.k q) (pl || (t.k == 12 && q == 2)) = some u → u.fine) := fun u hu => putG_fine hfine (HRK.out _ HM.out) (by omega) hu
            clear hS hq hx hd hdq hbd CALL hIr hH0
            cases pl with
            | true =>
              have hF : (true || (t.k == 12 && q == 2)) = true := rfl
              have hc := HCALL.out
              rw [hF] at hc
              have hH0 := held_start wr t.kids[q] (.slice a' t.kids[q].kids.length cap')
              have CALL2 : ∀ w', Held wr t.kids[q] (.slice a' t.kids[q].kids.length cap') w' → Calls Try.prog 39 #[.agg #[.func (.func fid) #[] #[.pointer (some ⟨bv, 0, none⟩)]], tv t.kids[q] (.slice a' t.kids[q].kids.length cap'), .int .i64 (b + bindsN t.k q), .bool true] w' (GivesY (t.kids[q].putG g (b + bindsN t.k q) (true || (t.k == 12 && q == 2))) w') := fun w' h' => (hc w' h').mono fun e w'' h => by rw [← hF] at h; exact h.ans
              have CALLB := Lib.hid (CALL2 (wr.alloc (.cells #[.int .i64 t.kids[q].k, .int .i64 t.kids[q].i, .int .i64 t.kids[q].j, .int .i64 t.kids[q].n, .slice a' t.kids[q].kids.length cap'] 24)).drew (held_drew hH0))
              have CALLA := Lib.hid ((CALL2 ((wr.alloc (.cells #[.int .i64 t.kids[q].k, .int .i64 t.kids[q].i, .int .i64 t.kids[q].j, .int .i64 t.kids[q].n, .slice a' t.kids[q].kids.length cap'] 24)).alloc zeroObj).drew (held_drew (held_alloc hH0 _))).mono fun e w'' h => And.intro h (zero_blocks_new h.below))
              clear hc HCALL CALL2 hF 
              go_wp2_with fail
              refine wp_region_held_drew (S := fun w' => Held wr t.kids[q] (.slice a' t.kids[q].kids.length cap') w' ∧ w'.cell? ⟨w.heap.size, 0, none⟩ = some (.int .i64 t.k) ∧ w'.cell? ⟨wi.heap.size, 0, none⟩ = some (.func (.func fid) #[] #[.pointer (some ⟨bv, 0, none⟩)]) ∧ w'.cell? ⟨wr.heap.size, 0, none⟩ = some (.int .i64 t.kids[q].k) ∧ w'.cell? ⟨wr.heap.size, 1, none⟩ = some (.int .i64 t.kids[q].i) ∧ w'.cell? ⟨wr.heap.size, 2, none⟩ = some (.int .i64 t.kids[q].j) ∧ w'.cell? ⟨wr.heap.size, 3, none⟩ = some (.int .i64 t.kids[q].n) ∧ w'.cell? ⟨wr.heap.size, 4, none⟩ = some (.slice a' t.kids[q].kids.length cap')) (by kernel_rfl) ?_ (fun hHeld => ?_)
              · (try dsimp only)
                (((with_reducible refine held_and2 ?_ d0 hpc); repeat (first | with_reducible assumption | with_reducible exact hH0 | with_reducible refine held_drew ?_ | with_reducible refine held_alloc ?_ _ | ((with_reducible refine held_set ?_ ?hh _); (case hh => simp)))))
              refine wpAnyH_take (i := 0) (oi := { dst := some 53, op := Go.Op.load 47 (Go.Operand.tmp 4), type := 47, pos := "subst.go:89", after := #[], guard := none }) (v := ?_) rfl (by kernel_rfl) (by kernel_rfl) (by kernel_rfl) (fun _ _ _ h => h) (Or.inl ⟨by rfl, ?_⟩) (by assumption) ?_
              rotate_left 1
              · ((intro w hSw; (try dsimp only at hSw); go_simp) <;> with_reducible rfl)
              (try simp only [Act.put, List.setIfInBounds_toArray, List.set_cons_zero, List.set_cons_succ])
              refine wpAnyH_take (i := 1) (oi := { dst := some 54, op := Go.Op.load 24 (Go.Operand.tmp 12), type := 24, pos := "subst.go:89", after := #[], guard := none }) (v := ?_) rfl (by kernel_rfl) (by kernel_rfl) (by kernel_rfl) (fun _ _ _ h => h) (Or.inl ⟨by rfl, ?_⟩) (by assumption) ?_
              rotate_left 1
              · ((intro w hSw; (try dsimp only at hSw); go_simp) <;> with_reducible rfl)
              (try simp only [Act.put, List.setIfInBounds_toArray, List.set_cons_zero, List.set_cons_succ])
              refine wpAnyH_take (i := 2) (oi := { dst := some 55, op := Go.Op.move (Go.Operand.tmp 2), type := 3, pos := "subst.go:89", after := #[], guard := none }) (v := ?_) rfl (by kernel_rfl) (by kernel_rfl) (by kernel_rfl) (fun _ _ _ h => h) (Or.inl ⟨by rfl, ?_⟩) (by assumption) ?_
              rotate_left 1
              · ((intro w hSw; (try dsimp only at hSw); go_simp) <;> with_reducible rfl)
              (try simp only [Act.put, List.setIfInBounds_toArray, List.set_cons_zero, List.set_cons_succ])
              refine wpAnyH_take (i := 3) (oi := { dst := some 56, op := Go.Op.fieldAddr 24 (Go.Operand.tmp 5) 0, type := 0, pos := "subst.go:89", after := #[], guard := none }) (v := ?_) rfl (by kernel_rfl) (by kernel_rfl) (by kernel_rfl) (fun _ _ _ h => h) (Or.inl ⟨by rfl, ?_⟩) (by assumption) ?_
              rotate_left 1
              · ((intro w hSw; (try dsimp only at hSw); go_simp) <;> with_reducible rfl)
              (try simp only [Act.put, List.setIfInBounds_toArray, List.set_cons_zero, List.set_cons_succ])
              refine wpAnyH_take (i := 4) (oi := { dst := some 57, op := Go.Op.load 3 (Go.Operand.tmp 56), type := 3, pos := "subst.go:89", after := #[{ on := 3, ground := Go.Ground.data }], guard := none }) (v := ?_) rfl (by kernel_rfl) (by kernel_rfl) (by kernel_rfl) (fun _ _ _ h => h) (Or.inl ⟨by rfl, ?_⟩) (by assumption) ?_
              rotate_left 1
              · ((intro w hSw; (try dsimp only at hSw); go_simp) <;> with_reducible rfl)
              (try simp only [Act.put, List.setIfInBounds_toArray, List.set_cons_zero, List.set_cons_succ])
              refine wpAnyH_take (i := 5) (oi := { dst := some 58, op := Go.Op.move (Go.Operand.tmp 11), type := 3, pos := "subst.go:89", after := #[], guard := none }) (v := ?_) rfl (by kernel_rfl) (by kernel_rfl) (by kernel_rfl) (fun _ _ _ h => h) (Or.inl ⟨by rfl, ?_⟩) (by assumption) ?_
              rotate_left 1
              · ((intro w hSw; (try dsimp only at hSw); go_simp) <;> with_reducible rfl)
              (try simp only [Act.put, List.setIfInBounds_toArray, List.set_cons_zero, List.set_cons_succ])
              refine wpAnyH_take (i := 8) (oi := { dst := some 61, op := Go.Op.move (Go.Operand.tmp 3), type := 4, pos := "subst.go:89", after := #[], guard := none }) (v := ?_) rfl (by kernel_rfl) (by kernel_rfl) (by kernel_rfl) (fun _ _ _ h => h) (Or.inl ⟨by rfl, ?_⟩) (by assumption) ?_
              rotate_left 1
              · ((intro w hSw; (try dsimp only at hSw); go_simp) <;> with_reducible rfl)
              (try simp only [Act.put, List.setIfInBounds_toArray, List.set_cons_zero, List.set_cons_succ])
              refine wpAnyH_ready (rs := [6, 22]) (by kernel_rfl) (by simp) ?_
              refine AllReadyH.cons (o := { dst := some 59, op := Go.Op.call { callee := Go.Callee.value (Go.Operand.func 52), args := #[Go.Operand.tmp 57, Go.Operand.tmp 58], argTypes := #[3, 3] }, type := 3, pos := "subst.go:89", after := #[{ on := 4, ground := Go.Ground.data }, { on := 5, ground := Go.Ground.data }], guard := none }) rfl (fun K hK => ?_) ?_
              · go_simp
                ((go_at_call 52; refine (binds_any _ _ _).mono ?_; rintro e w' ⟨rfl, rfl⟩))
                refine hK.out _ _ ?_ (fun hHeld => ?_)
                · (try dsimp only)
                  (((with_reducible refine held_and2 ?_ d0 hpc); repeat (first | with_reducible assumption | with_reducible exact hH0 | with_reducible refine held_drew ?_ | with_reducible refine held_alloc ?_ _ | ((with_reducible refine held_set ?_ ?hh _); (case hh => simp)))))
                clear hK K
                (try simp only [Act.put, List.setIfInBounds_toArray, List.set_cons_zero, List.set_cons_succ])
                refine wpAnyH_take (i := 7) (oi := { dst := some 60, op := Go.Op.binOp Go.BinOp.add 3 (Go.Operand.tmp 55) (Go.Operand.tmp 59) 3, type := 3, pos := "subst.go:89", after := #[{ on := 2, ground := Go.Ground.data }, { on := 6, ground := Go.Ground.data }], guard := none }) (v := ?_) rfl (by kernel_rfl) (by kernel_rfl) (by kernel_rfl) (fun _ _ _ h => h) (Or.inl ⟨by rfl, ?_⟩) (by assumption) ?_
                rotate_left 1
                · ((intro w hSw; (try dsimp only at hSw); go_simp) <;> with_reducible rfl)
                (try simp only [Act.put, List.setIfInBounds_toArray, List.set_cons_zero, List.set_cons_succ])
                refine wpAnyH_take (i := 9) (oi := { dst := some 62, op := Go.Op.move (Go.Operand.tmp 61), type := 4, pos := "subst.go:89", after := #[{ on := 8, ground := Go.Ground.data }, { on := 6, ground := Go.Ground.chain }], guard := none }) (v := ?_) rfl (by kernel_rfl) (by kernel_rfl) (by kernel_rfl) (fun _ _ _ h => h) (Or.inl ⟨by rfl, ?_⟩) (by assumption) ?_
                rotate_left 1
                · ((intro w hSw; (try dsimp only at hSw); go_simp) <;> with_reducible rfl)
                (try simp only [Act.put, List.setIfInBounds_toArray, List.set_cons_zero, List.set_cons_succ])
                refine wpAnyH_take (i := 10) (oi := { dst := some 63, op := Go.Op.fieldAddr 24 (Go.Operand.tmp 5) 0, type := 0, pos := "subst.go:89", after := #[{ on := 9, ground := Go.Ground.guard }], guard := some (9, false) }) (v := undef) rfl (by kernel_rfl) (by kernel_rfl) (by kernel_rfl) (fun _ _ _ h => h) (Or.inr ⟨by rfl, rfl⟩) (by assumption) ?_
                (try simp only [Act.put, List.setIfInBounds_toArray, List.set_cons_zero, List.set_cons_succ])
                refine wpAnyH_take (i := 11) (oi := { dst := some 64, op := Go.Op.load 3 (Go.Operand.tmp 63), type := 3, pos := "subst.go:89", after := #[{ on := 10, ground := Go.Ground.data }, { on := 9, ground := Go.Ground.guard }], guard := some (9, false) }) (v := undef) rfl (by kernel_rfl) (by kernel_rfl) (by kernel_rfl) (fun _ _ _ h => h) (Or.inr ⟨by rfl, rfl⟩) (by assumption) ?_
                (try simp only [Act.put, List.setIfInBounds_toArray, List.set_cons_zero, List.set_cons_succ])
                refine wpAnyH_take (i := 12) (oi := { dst := some 65, op := Go.Op.binOp Go.BinOp.eql 3 (Go.Operand.tmp 64) (Go.Operand.const (Go.Value.int Go.IntKind.i64 12)) 3, type := 4, pos := "subst.go:89", after := #[{ on := 11, ground := Go.Ground.data }, { on := 9, ground := Go.Ground.guard }], guard := some (9, false) }) (v := undef) rfl (by kernel_rfl) (by kernel_rfl) (by kernel_rfl) (fun _ _ _ h => h) (Or.inr ⟨by rfl, rfl⟩) (by assumption) ?_
                (try simp only [Act.put, List.setIfInBounds_toArray, List.set_cons_zero, List.set_cons_succ])
                refine wpAnyH_take (i := 13) (oi := { dst := some 66, op := Go.Op.move (Go.Operand.tmp 65), type := 4, pos := "subst.go:89", after := #[{ on := 12, ground := Go.Ground.data }, { on := 9, ground := Go.Ground.chain }, { on := 9, ground := Go.Ground.guard }], guard := some (9, false) }) (v := undef) rfl (by kernel_rfl) (by kernel_rfl) (by kernel_rfl) (fun _ _ _ h => h) (Or.inr ⟨by rfl, rfl⟩) (by assumption) ?_
                (try simp only [Act.put, List.setIfInBounds_toArray, List.set_cons_zero, List.set_cons_succ])
                refine wpAnyH_take (i := 14) (oi := { dst := some 67, op := Go.Op.move (Go.Operand.tmp 11), type := 3, pos := "subst.go:89", after := #[{ on := 13, ground := Go.Ground.guard }], guard := some (13, true) }) (v := undef) rfl (by kernel_rfl) (by kernel_rfl) (by kernel_rfl) (fun _ _ _ h => h) (Or.inr ⟨by rfl, rfl⟩) (by assumption) ?_
                (try simp only [Act.put, List.setIfInBounds_toArray, List.set_cons_zero, List.set_cons_succ])
                refine wpAnyH_take (i := 15) (oi := { dst := some 68, op := Go.Op.binOp Go.BinOp.eql 3 (Go.Operand.tmp 67) (Go.Operand.const (Go.Value.int Go.IntKind.i64 2)) 3, type := 4, pos := "subst.go:89", after := #[{ on := 14, ground := Go.Ground.data }, { on := 13, ground := Go.Ground.guard }], guard := some (13, true) }) (v := undef) rfl (by kernel_rfl) (by kernel_rfl) (by kernel_rfl) (fun _ _ _ h => h) (Or.inr ⟨by rfl, rfl⟩) (by assumption) ?_
                (try simp only [Act.put, List.setIfInBounds_toArray, List.set_cons_zero, List.set_cons_succ])
                refine wpAnyH_take (i := 16) (oi := { dst := some 69, op := Go.Op.pick (Go.Operand.tmp 66) (Go.Operand.tmp 68) (Go.Operand.const (Go.Value.bool false)), type := 4, pos := "subst.go:89", after := #[{ on := 13, ground := Go.Ground.data }, { on := 15, ground := Go.Ground.data }, { on := 9, ground := Go.Ground.guard }], guard := some (9, false) }) (v := undef) rfl (by kernel_rfl) (by kernel_rfl) (by kernel_rfl) (fun _ _ _ h => h) (Or.inr ⟨by rfl, rfl⟩) (by assumption) ?_
                (try simp only [Act.put, List.setIfInBounds_toArray, List.set_cons_zero, List.set_cons_succ])
                refine wpAnyH_take (i := 17) (oi := { dst := some 70, op := Go.Op.pick (Go.Operand.tmp 62) (Go.Operand.const (Go.Value.bool true)) (Go.Operand.tmp 69), type := 4, pos := "subst.go:89", after := #[{ on := 9, ground := Go.Ground.data }, { on := 16, ground := Go.Ground.data }], guard := none }) (v := ?_) rfl (by kernel_rfl) (by kernel_rfl) (by kernel_rfl) (fun _ _ _ h => h) (Or.inl ⟨by rfl, ?_⟩) (by assumption) ?_
                rotate_left 1
                · ((intro w hSw; (try dsimp only at hSw); go_simp) <;> with_reducible rfl)
                (try simp only [Act.put, List.setIfInBounds_toArray, List.set_cons_zero, List.set_cons_succ])
                refine wpAnyH_ready (rs := [18, 22]) (by kernel_rfl) (by simp) ?_
                refine AllReadyH.cons (o := { dst := some 71, op := Go.Op.call { callee := Go.Callee.value (Go.Operand.func 39), args := #[Go.Operand.tmp 53, Go.Operand.tmp 54, Go.Operand.tmp 60, Go.Operand.tmp 70], argTypes := #[47, 24, 3, 4] }, type := 33, pos := "subst.go:89", after := #[{ on := 0, ground := Go.Ground.data }, { on := 1, ground := Go.Ground.data }, { on := 7, ground := Go.Ground.data }, { on := 17, ground := Go.Ground.data }, { on := 13, ground := Go.Ground.chain }], guard := none }) rfl (fun K hK => ?_) ?_
                · go_simp
                  ((go_at_call 39; ((with_reducible refine Calls.mono CALLB.out ?_); rintro e wn ⟨u, a2, n2, cap2, ok, rfl, hbn, hans⟩; have HANS := Lib.hid hans; clear hans; have hh := held_call (held_drew hH0) hbn)))
                  refine hK.out _ _ ?_ (fun hHeld => ?_)
                  · (try dsimp only)
                    (((with_reducible refine held_and2 ?_ d0 hpc); repeat (first | with_reducible assumption | with_reducible exact hH0 | with_reducible refine held_drew ?_ | with_reducible refine held_alloc ?_ _ | ((with_reducible refine held_set ?_ ?hh _); (case hh => simp)))))
                  clear hK K
                  (try simp only [Act.put, List.setIfInBounds_toArray, List.set_cons_zero, List.set_cons_succ])
                  refine wpAnyH_take (i := 19) (oi := { dst := some 52, op := Go.Op.move (Go.Operand.tmp 71), type := 33, pos := "subst.go:89", after := #[{ on := 18, ground := Go.Ground.data }], guard := none }) (v := ?_) rfl (by kernel_rfl) (by kernel_rfl) (by kernel_rfl) (fun _ _ _ h => h) (Or.inl ⟨by rfl, ?_⟩) (by assumption) ?_
                  rotate_left 1
                  · ((intro w hSw; (try dsimp only at hSw); go_simp) <;> with_reducible rfl)
                  (try simp only [Act.put, List.setIfInBounds_toArray, List.set_cons_zero, List.set_cons_succ])
                  refine wpAnyH_take (i := 20) (oi := { dst := some 72, op := Go.Op.extract (Go.Operand.tmp 52) 0, type := 24, pos := "subst.go:89", after := #[{ on := 19, ground := Go.Ground.data }], guard := none }) (v := ?_) rfl (by kernel_rfl) (by kernel_rfl) (by kernel_rfl) (fun _ _ _ h => h) (Or.inl ⟨by rfl, ?_⟩) (by assumption) ?_
                  rotate_left 1
                  · ((intro w hSw; (try dsimp only at hSw); go_simp) <;> with_reducible rfl)
                  (try simp only [Act.put, List.setIfInBounds_toArray, List.set_cons_zero, List.set_cons_succ])
                  refine wpAnyH_take (i := 21) (oi := { dst := some 73, op := Go.Op.extract (Go.Operand.tmp 52) 1, type := 4, pos := "subst.go:89", after := #[{ on := 19, ground := Go.Ground.data }, { on := 23, ground := Go.Ground.gcOnly Go.Departure.lateStores }], guard := none }) (v := ?_) rfl (by kernel_rfl) (by kernel_rfl) (by kernel_rfl) (fun _ _ _ h => h) (Or.inl ⟨by rfl, ?_⟩) (by assumption) ?_
                  rotate_left 1
                  · ((intro w hSw; (try dsimp only at hSw); go_simp) <;> with_reducible rfl)
                  (try simp only [Act.put, List.setIfInBounds_toArray, List.set_cons_zero, List.set_cons_succ])
                  refine wpAnyH_ready (rs := [22]) (by kernel_rfl) (by simp) ?_
                  refine AllReadyH.cons (o := { dst := some 13, op := Go.Op.alloc 24, type := 0, pos := "subst.go:89", after := #[], guard := none }) rfl (fun K hK => ?_) ?_
                  · go_simp
                    refine hK.out _ _ ?_ (fun hHeld => ?_)
                    · (try dsimp only)
                      (((with_reducible refine held_and2 ?_ d0 hpc); repeat (first | with_reducible assumption | with_reducible exact hH0 | with_reducible refine held_drew ?_ | with_reducible refine held_alloc ?_ _ | ((with_reducible refine held_set ?_ ?hh _); (case hh => simp)))))
                    clear hK K
                    (try simp only [Act.put, List.setIfInBounds_toArray, List.set_cons_zero, List.set_cons_succ])
                    refine wpAnyH_ready (rs := [23]) (by kernel_rfl) (by simp) ?_
                    refine AllReadyH.cons (o := { dst := none, op := Go.Op.store 24 (Go.Operand.tmp 13) (Go.Operand.tmp 72), type := 0, pos := "subst.go:89", after := #[{ on := 22, ground := Go.Ground.data }, { on := 20, ground := Go.Ground.data }, { on := 18, ground := Go.Ground.chain }, { on := 0, ground := Go.Ground.phase }, { on := 1, ground := Go.Ground.phase }, { on := 2, ground := Go.Ground.phase }, { on := 3, ground := Go.Ground.phase }, { on := 4, ground := Go.Ground.phase }, { on := 5, ground := Go.Ground.phase }, { on := 6, ground := Go.Ground.phase }, { on := 7, ground := Go.Ground.phase }, { on := 8, ground := Go.Ground.phase }, { on := 9, ground := Go.Ground.phase }, { on := 10, ground := Go.Ground.phase }, { on := 11, ground := Go.Ground.phase }, { on := 12, ground := Go.Ground.phase }, { on := 13, ground := Go.Ground.phase }, { on := 14, ground := Go.Ground.phase }, { on := 15, ground := Go.Ground.phase }, { on := 16, ground := Go.Ground.phase }, { on := 17, ground := Go.Ground.phase }, { on := 18, ground := Go.Ground.phase }, { on := 19, ground := Go.Ground.phase }, { on := 20, ground := Go.Ground.phase }, { on := 21, ground := Go.Ground.textOnly Go.Departure.lateStores }, { on := 22, ground := Go.Ground.phase }], guard := none }) rfl (fun K hK => ?_) ?_
                    · go_simp
                      refine hK.out _ _ ?_ (fun hHeld => ?_)
                      · (try dsimp only)
                        (((with_reducible refine held_and2 ?_ d0 hpc); repeat (first | with_reducible assumption | with_reducible exact hH0 | with_reducible refine held_drew ?_ | with_reducible refine held_alloc ?_ _ | ((with_reducible refine held_set ?_ ?hh _); (case hh => simp)))))
                      clear hK K
                      (try simp only [Act.put, List.setIfInBounds_toArray, List.set_cons_zero, List.set_cons_succ])
                      refine wpAnyH_take (i := 24) (oi := { dst := some 14, op := Go.Op.assign (Go.Operand.tmp 73), type := 4, pos := "subst.go:89", after := #[{ on := 21, ground := Go.Ground.data }, { on := 23, ground := Go.Ground.chain }, { on := 0, ground := Go.Ground.phase }, { on := 1, ground := Go.Ground.phase }, { on := 2, ground := Go.Ground.phase }, { on := 3, ground := Go.Ground.phase }, { on := 4, ground := Go.Ground.phase }, { on := 5, ground := Go.Ground.phase }, { on := 6, ground := Go.Ground.phase }, { on := 7, ground := Go.Ground.phase }, { on := 8, ground := Go.Ground.phase }, { on := 9, ground := Go.Ground.phase }, { on := 10, ground := Go.Ground.phase }, { on := 11, ground := Go.Ground.phase }, { on := 12, ground := Go.Ground.phase }, { on := 13, ground := Go.Ground.phase }, { on := 14, ground := Go.Ground.phase }, { on := 15, ground := Go.Ground.phase }, { on := 16, ground := Go.Ground.phase }, { on := 17, ground := Go.Ground.phase }, { on := 18, ground := Go.Ground.phase }, { on := 19, ground := Go.Ground.phase }, { on := 20, ground := Go.Ground.phase }, { on := 21, ground := Go.Ground.phase }, { on := 22, ground := Go.Ground.phase }, { on := 23, ground := Go.Ground.phase }], guard := none }) (v := ?_) rfl (by kernel_rfl) (by kernel_rfl) (by kernel_rfl) (fun _ _ _ h => h) (Or.inl ⟨by rfl, ?_⟩) (by assumption) ?_
                      rotate_left 1
                      · ((intro w hSw; (try dsimp only at hSw); go_simp) <;> with_reducible rfl)
                      (try simp only [Act.put, List.setIfInBounds_toArray, List.set_cons_zero, List.set_cons_succ])
                      refine wpAnyH_done (by kernel_rfl) ?_ _
                      rcases HANS.out with ⟨rfl, hr, rfl, hl2⟩ | ⟨rfl, hr⟩
                      · have HFI2 := Lib.hid (HFX.out u hr)
                        have hW : Held wr t.kids[q] (.slice a' t.kids[q].kids.length cap') (wn.alloc (.cells #[.int .i64 u.k, .int .i64 u.i, .int .i64 u.j, .int .i64 u.n, .slice a2 u.kids.length cap2] 24)) := held_alloc hh _
                        have hLW : LiesP (wn.alloc (.cells #[.int .i64 u.k, .int .i64 u.i, .int .i64 u.j, .int .i64 u.n, .slice a2 u.kids.length cap2] 24)) (Own wr.heap.size (wn.alloc (.cells #[.int .i64 u.k, .int .i64 u.i, .int .i64 u.j, .int .i64 u.n, .slice a2 u.kids.length cap2] 24))) u.kids (.slice a2 u.kids.length cap2) := ((hl2.from (by simp)).later ((Below.refl _ _).alloc (Nat.le_refl _) _))
                        have hN : (wn.alloc (.cells #[.int .i64 u.k, .int .i64 u.i, .int .i64 u.j, .int .i64 u.n, .slice a2 u.kids.length cap2] 24)).heap[wn.heap.size]? = some (boxOf u (.slice a2 u.kids.length cap2)) := alloc_new _ _
                        clear hh hbn hl2
                        generalize (wn.alloc (.cells #[.int .i64 u.k, .int .i64 u.i, .int .i64 u.j, .int .i64 u.n, .slice a2 u.kids.length cap2] 24)) = W at hW hLW hN ⊢
                        have hdW := desk_trans hdk (below_from (held_below hW) hsz)
                        have hfW := hfu.later (held_below hW)
                        have hxq : q < xs.length := by rw [HXL.out]; exact hlt
                        have hLF := hfu.fresh hsz hLW
                        obtain ⟨-, -, q2⟩ := desk_blocks hdW
                        obtain ⟨y0, y1, y2, y3, y4⟩ := five_cells q2
                        obtain ⟨p0, p1, p2, p3, p4⟩ := five_cells hN
                        obtain ⟨x0, x1, x2, x3, x4⟩ := hfW.node q hxq
                        obtain ⟨cs, hcs⟩ := hfW.open'
                        have f0 := open_unfrozen hcs (q * 5)
                        have f1 := open_unfrozen hcs (q * 5 + 1)
                        have f2 := open_unfrozen hcs (q * 5 + 2)
                        have f3 := open_unfrozen hcs (q * 5 + 3)
                        have f4 := open_unfrozen hcs (q * 5 + 4)
                        have HFW := Lib.hid hfW
                        have HLF := Lib.hid hLF
                        have HFU := Lib.hid hfu
                        clear hcs hN hLW hW hfW hLF hfu d0 d1 d2 d3 d4 z0 z1 z2 z3 z4
                        go_wp2
                        go_roundw
                        case rel => exact ⟨q + 1, xs.set q (u, .slice a2 u.kids.length cap2), hlt, by go_num, by simp [Hid, HXL.out], by rw [Hid, optK_next hlt HXS.out hr, List.map_set, take_set_next _ _ _ (by simpa using hxq)], HFW.out.fill hxq HFI2.out HLF.out, desk_put hdW (Nat.le_refl _) _ _ _⟩
                        case measure => simp [intOf]; omega
                      · have hW : Held wr t.kids[q] (.slice a' t.kids[q].kids.length cap') (wn.alloc (.cells #[.int .i64 u.k, .int .i64 u.i, .int .i64 u.j, .int .i64 u.n, .slice a2 n2 cap2] 24)) := held_alloc hh _
                        clear hh hbn
                        generalize (wn.alloc (.cells #[.int .i64 u.k, .int .i64 u.i, .int .i64 u.j, .int .i64 u.n, .slice a2 n2 cap2] 24)) = W at hW ⊢
                        have hdW := desk_trans hdk (below_from (held_below hW) hsz)
                        obtain ⟨-, q1, -⟩ := desk_blocks hdW
                        obtain ⟨z0, z1, z2, z3, z4⟩ := five_cells q1
                        obtain ⟨f0, f1, f2, f3, f4⟩ := five_free q1
                        go_wp2
                        (try simp only [Exit.inBlock, Exit.then])
                        refine bodyPost_ret (results_cell_tmp rfl _ _ (w.heap.size + 1) _ _ _ du rfl (five_set q1) hu1 (by cases du <;> first | rfl | exact hu2) size_term) rfl ?_
                        exact GivesN.wide ⟨((((((desk_under hdW).setCell (by simp) _).setCell (by simp) _).setCell (by simp) _).setCell (by simp) _).setCell (by simp) _), Or.inr ⟨Tm.zero, none, 0, 0, by rw [HEQ.out, optK_stop hlt hr]; rfl, rfl⟩⟩ HBP.out
                    exact AllReadyH.nil
                  exact AllReadyH.nil
                refine AllReadyH.cons (o := { dst := some 13, op := Go.Op.alloc 24, type := 0, pos := "subst.go:89", after := #[], guard := none }) rfl (fun K hK => ?_) ?_
                · go_simp
                  refine hK.out _ _ ?_ (fun hHeld => ?_)
                  · (try dsimp only)
                    (((with_reducible refine held_and2 ?_ d0 hpc); repeat (first | with_reducible assumption | with_reducible exact hH0 | with_reducible refine held_drew ?_ | with_reducible refine held_alloc ?_ _ | ((with_reducible refine held_set ?_ ?hh _); (case hh => simp)))))
                  clear hK K
                  (try simp only [Act.put, List.setIfInBounds_toArray, List.set_cons_zero, List.set_cons_succ])
                  refine wpAnyH_ready (rs := [18]) (by kernel_rfl) (by simp) ?_
                  refine AllReadyH.cons (o := { dst := some 71, op := Go.Op.call { callee := Go.Callee.value (Go.Operand.func 39), args := #[Go.Operand.tmp 53, Go.Operand.tmp 54, Go.Operand.tmp 60, Go.Operand.tmp 70], argTypes := #[47, 24, 3, 4] }, type := 33, pos := "subst.go:89", after := #[{ on := 0, ground := Go.Ground.data }, { on := 1, ground := Go.Ground.data }, { on := 7, ground := Go.Ground.data }, { on := 17, ground := Go.Ground.data }, { on := 13, ground := Go.Ground.chain }], guard := none }) rfl (fun K hK => ?_) ?_
                  · go_simp
                    ((go_at_call 39; ((with_reducible refine Calls.mono CALLA.out ?_); rintro e wn ⟨⟨u, a2, n2, cap2, ok, rfl, hbn, hans⟩, hZ⟩; obtain ⟨⟨g0, g1, g2, g3, g4⟩, k0, k1, k2, k3, k4⟩ := And.intro (five_cells hZ) (five_free hZ); have HANS := Lib.hid hans; clear hans; have hh := held_call (held_drew (held_alloc hH0 _)) hbn)))
                    refine hK.out _ _ ?_ (fun hHeld => ?_)
                    · (try dsimp only)
                      (((with_reducible refine held_and2 ?_ d0 hpc); repeat (first | with_reducible assumption | with_reducible exact hH0 | with_reducible refine held_drew ?_ | with_reducible refine held_alloc ?_ _ | ((with_reducible refine held_set ?_ ?hh _); (case hh => simp)))))
                    clear hK K
                    (try simp only [Act.put, List.setIfInBounds_toArray, List.set_cons_zero, List.set_cons_succ])
                    refine wpAnyH_take (i := 19) (oi := { dst := some 52, op := Go.Op.move (Go.Operand.tmp 71), type := 33, pos := "subst.go:89", after := #[{ on := 18, ground := Go.Ground.data }], guard := none }) (v := ?_) rfl (by kernel_rfl) (by kernel_rfl) (by kernel_rfl) (fun _ _ _ h => h) (Or.inl ⟨by rfl, ?_⟩) (by assumption) ?_
                    rotate_left 1
                    · ((intro w hSw; (try dsimp only at hSw); go_simp) <;> with_reducible rfl)
                    (try simp only [Act.put, List.setIfInBounds_toArray, List.set_cons_zero, List.set_cons_succ])
                    refine wpAnyH_take (i := 20) (oi := { dst := some 72, op := Go.Op.extract (Go.Operand.tmp 52) 0, type := 24, pos := "subst.go:89", after := #[{ on := 19, ground := Go.Ground.data }], guard := none }) (v := ?_) rfl (by kernel_rfl) (by kernel_rfl) (by kernel_rfl) (fun _ _ _ h => h) (Or.inl ⟨by rfl, ?_⟩) (by assumption) ?_
                    rotate_left 1
                    · ((intro w hSw; (try dsimp only at hSw); go_simp) <;> with_reducible rfl)
                    (try simp only [Act.put, List.setIfInBounds_toArray, List.set_cons_zero, List.set_cons_succ])
                    refine wpAnyH_take (i := 21) (oi := { dst := some 73, op := Go.Op.extract (Go.Operand.tmp 52) 1, type := 4, pos := "subst.go:89", after := #[{ on := 19, ground := Go.Ground.data }, { on := 23, ground := Go.Ground.gcOnly Go.Departure.lateStores }], guard := none }) (v := ?_) rfl (by kernel_rfl) (by kernel_rfl) (by kernel_rfl) (fun _ _ _ h => h) (Or.inl ⟨by rfl, ?_⟩) (by assumption) ?_
                    rotate_left 1
                    · ((intro w hSw; (try dsimp only at hSw); go_simp) <;> with_reducible rfl)
                    (try simp only [Act.put, List.setIfInBounds_toArray, List.set_cons_zero, List.set_cons_succ])
                    refine wpAnyH_ready (rs := [23]) (by kernel_rfl) (by simp) ?_
                    refine AllReadyH.cons (o := { dst := none, op := Go.Op.store 24 (Go.Operand.tmp 13) (Go.Operand.tmp 72), type := 0, pos := "subst.go:89", after := #[{ on := 22, ground := Go.Ground.data }, { on := 20, ground := Go.Ground.data }, { on := 18, ground := Go.Ground.chain }, { on := 0, ground := Go.Ground.phase }, { on := 1, ground := Go.Ground.phase }, { on := 2, ground := Go.Ground.phase }, { on := 3, ground := Go.Ground.phase }, { on := 4, ground := Go.Ground.phase }, { on := 5, ground := Go.Ground.phase }, { on := 6, ground := Go.Ground.phase }, { on := 7, ground := Go.Ground.phase }, { on := 8, ground := Go.Ground.phase }, { on := 9, ground := Go.Ground.phase }, { on := 10, ground := Go.Ground.phase }, { on := 11, ground := Go.Ground.phase }, { on := 12, ground := Go.Ground.phase }, { on := 13, ground := Go.Ground.phase }, { on := 14, ground := Go.Ground.phase }, { on := 15, ground := Go.Ground.phase }, { on := 16, ground := Go.Ground.phase }, { on := 17, ground := Go.Ground.phase }, { on := 18, ground := Go.Ground.phase }, { on := 19, ground := Go.Ground.phase }, { on := 20, ground := Go.Ground.phase }, { on := 21, ground := Go.Ground.textOnly Go.Departure.lateStores }, { on := 22, ground := Go.Ground.phase }], guard := none }) rfl (fun K hK => ?_) ?_
                    · go_simp
                      refine hK.out _ _ ?_ (fun hHeld => ?_)
                      · (try dsimp only)
                        (((with_reducible refine held_and2 ?_ d0 hpc); repeat (first | with_reducible assumption | with_reducible exact hH0 | with_reducible refine held_drew ?_ | with_reducible refine held_alloc ?_ _ | ((with_reducible refine held_set ?_ ?hh _); (case hh => simp)))))
                      clear hK K
                      (try simp only [Act.put, List.setIfInBounds_toArray, List.set_cons_zero, List.set_cons_succ])
                      refine wpAnyH_take (i := 24) (oi := { dst := some 14, op := Go.Op.assign (Go.Operand.tmp 73), type := 4, pos := "subst.go:89", after := #[{ on := 21, ground := Go.Ground.data }, { on := 23, ground := Go.Ground.chain }, { on := 0, ground := Go.Ground.phase }, { on := 1, ground := Go.Ground.phase }, { on := 2, ground := Go.Ground.phase }, { on := 3, ground := Go.Ground.phase }, { on := 4, ground := Go.Ground.phase }, { on := 5, ground := Go.Ground.phase }, { on := 6, ground := Go.Ground.phase }, { on := 7, ground := Go.Ground.phase }, { on := 8, ground := Go.Ground.phase }, { on := 9, ground := Go.Ground.phase }, { on := 10, ground := Go.Ground.phase }, { on := 11, ground := Go.Ground.phase }, { on := 12, ground := Go.Ground.phase }, { on := 13, ground := Go.Ground.phase }, { on := 14, ground := Go.Ground.phase }, { on := 15, ground := Go.Ground.phase }, { on := 16, ground := Go.Ground.phase }, { on := 17, ground := Go.Ground.phase }, { on := 18, ground := Go.Ground.phase }, { on := 19, ground := Go.Ground.phase }, { on := 20, ground := Go.Ground.phase }, { on := 21, ground := Go.Ground.phase }, { on := 22, ground := Go.Ground.phase }, { on := 23, ground := Go.Ground.phase }], guard := none }) (v := ?_) rfl (by kernel_rfl) (by kernel_rfl) (by kernel_rfl) (fun _ _ _ h => h) (Or.inl ⟨by rfl, ?_⟩) (by assumption) ?_
                      rotate_left 1
                      · ((intro w hSw; (try dsimp only at hSw); go_simp) <;> with_reducible rfl)
                      (try simp only [Act.put, List.setIfInBounds_toArray, List.set_cons_zero, List.set_cons_succ])
                      refine wpAnyH_done (by kernel_rfl) ?_ _
                      rcases HANS.out with ⟨rfl, hr, rfl, hl2⟩ | ⟨rfl, hr⟩
                      · have HFI2 := Lib.hid (HFX.out u hr)
                        have hW : Held wr t.kids[q] (.slice a' t.kids[q].kids.length cap') (((((wn.setCell ⟨wr.heap.size + 1, 0, none⟩ (.int .i64 u.k)).setCell ⟨wr.heap.size + 1, 1, none⟩ (.int .i64 u.i)).setCell ⟨wr.heap.size + 1, 2, none⟩ (.int .i64 u.j)).setCell ⟨wr.heap.size + 1, 3, none⟩ (.int .i64 u.n)).setCell ⟨wr.heap.size + 1, 4, none⟩ (.slice a2 u.kids.length cap2)) := held_five hh _ _ _ _ _
                        have hLW : LiesP (((((wn.setCell ⟨wr.heap.size + 1, 0, none⟩ (.int .i64 u.k)).setCell ⟨wr.heap.size + 1, 1, none⟩ (.int .i64 u.i)).setCell ⟨wr.heap.size + 1, 2, none⟩ (.int .i64 u.j)).setCell ⟨wr.heap.size + 1, 3, none⟩ (.int .i64 u.n)).setCell ⟨wr.heap.size + 1, 4, none⟩ (.slice a2 u.kids.length cap2)) (Own wr.heap.size (((((wn.setCell ⟨wr.heap.size + 1, 0, none⟩ (.int .i64 u.k)).setCell ⟨wr.heap.size + 1, 1, none⟩ (.int .i64 u.i)).setCell ⟨wr.heap.size + 1, 2, none⟩ (.int .i64 u.j)).setCell ⟨wr.heap.size + 1, 3, none⟩ (.int .i64 u.n)).setCell ⟨wr.heap.size + 1, 4, none⟩ (.slice a2 u.kids.length cap2))) u.kids (.slice a2 u.kids.length cap2) := liesP_five (hl2.from (B' := wr.heap.size + 2) (by simp)) _ _ _ _ _
                        have hN : (((((wn.setCell ⟨wr.heap.size + 1, 0, none⟩ (.int .i64 u.k)).setCell ⟨wr.heap.size + 1, 1, none⟩ (.int .i64 u.i)).setCell ⟨wr.heap.size + 1, 2, none⟩ (.int .i64 u.j)).setCell ⟨wr.heap.size + 1, 3, none⟩ (.int .i64 u.n)).setCell ⟨wr.heap.size + 1, 4, none⟩ (.slice a2 u.kids.length cap2)).heap[wr.heap.size + 1]? = some (boxOf u (.slice a2 u.kids.length cap2)) := five_set hZ
                        clear hh hbn hl2 hZ g0 g1 g2 g3 g4 k0 k1 k2 k3 k4
                        generalize (((((wn.setCell ⟨wr.heap.size + 1, 0, none⟩ (.int .i64 u.k)).setCell ⟨wr.heap.size + 1, 1, none⟩ (.int .i64 u.i)).setCell ⟨wr.heap.size + 1, 2, none⟩ (.int .i64 u.j)).setCell ⟨wr.heap.size + 1, 3, none⟩ (.int .i64 u.n)).setCell ⟨wr.heap.size + 1, 4, none⟩ (.slice a2 u.kids.length cap2)) = W at hW hLW hN ⊢
                        have hdW := desk_trans hdk (below_from (held_below hW) hsz)
                        have hfW := hfu.later (held_below hW)
                        have hxq : q < xs.length := by rw [HXL.out]; exact hlt
                        have hLF := hfu.fresh hsz hLW
                        obtain ⟨-, -, q2⟩ := desk_blocks hdW
                        obtain ⟨y0, y1, y2, y3, y4⟩ := five_cells q2
                        obtain ⟨p0, p1, p2, p3, p4⟩ := five_cells hN
                        obtain ⟨x0, x1, x2, x3, x4⟩ := hfW.node q hxq
                        obtain ⟨cs, hcs⟩ := hfW.open'
                        have f0 := open_unfrozen hcs (q * 5)
                        have f1 := open_unfrozen hcs (q * 5 + 1)
                        have f2 := open_unfrozen hcs (q * 5 + 2)
                        have f3 := open_unfrozen hcs (q * 5 + 3)
                        have f4 := open_unfrozen hcs (q * 5 + 4)
                        have HFW := Lib.hid hfW
                        have HLF := Lib.hid hLF
                        have HFU := Lib.hid hfu
                        clear hcs hN hLW hW hfW hLF hfu d0 d1 d2 d3 d4 z0 z1 z2 z3 z4
                        go_wp2
                        go_roundw
                        case rel => exact ⟨q + 1, xs.set q (u, .slice a2 u.kids.length cap2), hlt, by go_num, by simp [Hid, HXL.out], by rw [Hid, optK_next hlt HXS.out hr, List.map_set, take_set_next _ _ _ (by simpa using hxq)], HFW.out.fill hxq HFI2.out HLF.out, desk_put hdW (Nat.le_refl _) _ _ _⟩
                        case measure => simp [intOf]; omega
                      · have hW : Held wr t.kids[q] (.slice a' t.kids[q].kids.length cap') (((((wn.setCell ⟨wr.heap.size + 1, 0, none⟩ (.int .i64 u.k)).setCell ⟨wr.heap.size + 1, 1, none⟩ (.int .i64 u.i)).setCell ⟨wr.heap.size + 1, 2, none⟩ (.int .i64 u.j)).setCell ⟨wr.heap.size + 1, 3, none⟩ (.int .i64 u.n)).setCell ⟨wr.heap.size + 1, 4, none⟩ (.slice a2 n2 cap2)) := held_five hh _ _ _ _ _
                        clear hh hbn hZ g0 g1 g2 g3 g4 k0 k1 k2 k3 k4
                        generalize (((((wn.setCell ⟨wr.heap.size + 1, 0, none⟩ (.int .i64 u.k)).setCell ⟨wr.heap.size + 1, 1, none⟩ (.int .i64 u.i)).setCell ⟨wr.heap.size + 1, 2, none⟩ (.int .i64 u.j)).setCell ⟨wr.heap.size + 1, 3, none⟩ (.int .i64 u.n)).setCell ⟨wr.heap.size + 1, 4, none⟩ (.slice a2 n2 cap2)) = W at hW ⊢
                        have hdW := desk_trans hdk (below_from (held_below hW) hsz)
                        obtain ⟨-, q1, -⟩ := desk_blocks hdW
                        obtain ⟨z0, z1, z2, z3, z4⟩ := five_cells q1
                        obtain ⟨f0, f1, f2, f3, f4⟩ := five_free q1
                        go_wp2
                        (try simp only [Exit.inBlock, Exit.then])
                        refine bodyPost_ret (results_cell_tmp rfl _ _ (w.heap.size + 1) _ _ _ du rfl (five_set q1) hu1 (by cases du <;> first | rfl | exact hu2) size_term) rfl ?_
                        exact GivesN.wide ⟨((((((desk_under hdW).setCell (by simp) _).setCell (by simp) _).setCell (by simp) _).setCell (by simp) _).setCell (by simp) _), Or.inr ⟨Tm.zero, none, 0, 0, by rw [HEQ.out, optK_stop hlt hr]; rfl, rfl⟩⟩ HBP.out
                    exact AllReadyH.nil
                  exact AllReadyH.nil
                exact AllReadyH.nil
              refine AllReadyH.cons (o := { dst := some 13, op := Go.Op.alloc 24, type := 0, pos := "subst.go:89", after := #[], guard := none }) rfl (fun K hK => ?_) ?_
              · go_simp
                refine hK.out _ _ ?_ (fun hHeld => ?_)
                · (try dsimp only)
                  (((with_reducible refine held_and2 ?_ d0 hpc); repeat (first | with_reducible assumption | with_reducible exact hH0 | with_reducible refine held_drew ?_ | with_reducible refine held_alloc ?_ _ | ((with_reducible refine held_set ?_ ?hh _); (case hh => simp)))))
                clear hK K
                (try simp only [Act.put, List.setIfInBounds_toArray, List.set_cons_zero, List.set_cons_succ])
                refine wpAnyH_ready (rs := [6]) (by kernel_rfl) (by simp) ?_
                refine AllReadyH.cons (o := { dst := some 59, op := Go.Op.call { callee := Go.Callee.value (Go.Operand.func 52), args := #[Go.Operand.tmp 57, Go.Operand.tmp 58], argTypes := #[3, 3] }, type := 3, pos := "subst.go:89", after := #[{ on := 4, ground := Go.Ground.data }, { on := 5, ground := Go.Ground.data }], guard := none }) rfl (fun K hK => ?_) ?_
                · go_simp
                  ((go_at_call 52; refine (binds_any _ _ _).mono ?_; rintro e w' ⟨rfl, rfl⟩))
                  refine hK.out _ _ ?_ (fun hHeld => ?_)
                  · (try dsimp only)
                    (((with_reducible refine held_and2 ?_ d0 hpc); repeat (first | with_reducible assumption | with_reducible exact hH0 | with_reducible refine held_drew ?_ | with_reducible refine held_alloc ?_ _ | ((with_reducible refine held_set ?_ ?hh _); (case hh => simp)))))
                  clear hK K
                  (try simp only [Act.put, List.setIfInBounds_toArray, List.set_cons_zero, List.set_cons_succ])
                  refine wpAnyH_take (i := 7) (oi := { dst := some 60, op := Go.Op.binOp Go.BinOp.add 3 (Go.Operand.tmp 55) (Go.Operand.tmp 59) 3, type := 3, pos := "subst.go:89", after := #[{ on := 2, ground := Go.Ground.data }, { on := 6, ground := Go.Ground.data }], guard := none }) (v := ?_) rfl (by kernel_rfl) (by kernel_rfl) (by kernel_rfl) (fun _ _ _ h => h) (Or.inl ⟨by rfl, ?_⟩) (by assumption) ?_
                  rotate_left 1
                  · ((intro w hSw; (try dsimp only at hSw); go_simp) <;> with_reducible rfl)
                  (try simp only [Act.put, List.setIfInBounds_toArray, List.set_cons_zero, List.set_cons_succ])
                  refine wpAnyH_take (i := 9) (oi := { dst := some 62, op := Go.Op.move (Go.Operand.tmp 61), type := 4, pos := "subst.go:89", after := #[{ on := 8, ground := Go.Ground.data }, { on := 6, ground := Go.Ground.chain }], guard := none }) (v := ?_) rfl (by kernel_rfl) (by kernel_rfl) (by kernel_rfl) (fun _ _ _ h => h) (Or.inl ⟨by rfl, ?_⟩) (by assumption) ?_
                  rotate_left 1
                  · ((intro w hSw; (try dsimp only at hSw); go_simp) <;> with_reducible rfl)
                  (try simp only [Act.put, List.setIfInBounds_toArray, List.set_cons_zero, List.set_cons_succ])
                  refine wpAnyH_take (i := 10) (oi := { dst := some 63, op := Go.Op.fieldAddr 24 (Go.Operand.tmp 5) 0, type := 0, pos := "subst.go:89", after := #[{ on := 9, ground := Go.Ground.guard }], guard := some (9, false) }) (v := undef) rfl (by kernel_rfl) (by kernel_rfl) (by kernel_rfl) (fun _ _ _ h => h) (Or.inr ⟨by rfl, rfl⟩) (by assumption) ?_
                  (try simp only [Act.put, List.setIfInBounds_toArray, List.set_cons_zero, List.set_cons_succ])
                  refine wpAnyH_take (i := 11) (oi := { dst := some 64, op := Go.Op.load 3 (Go.Operand.tmp 63), type := 3, pos := "subst.go:89", after := #[{ on := 10, ground := Go.Ground.data }, { on := 9, ground := Go.Ground.guard }], guard := some (9, false) }) (v := undef) rfl (by kernel_rfl) (by kernel_rfl) (by kernel_rfl) (fun _ _ _ h => h) (Or.inr ⟨by rfl, rfl⟩) (by assumption) ?_
                  (try simp only [Act.put, List.setIfInBounds_toArray, List.set_cons_zero, List.set_cons_succ])
                  refine wpAnyH_take (i := 12) (oi := { dst := some 65, op := Go.Op.binOp Go.BinOp.eql 3 (Go.Operand.tmp 64) (Go.Operand.const (Go.Value.int Go.IntKind.i64 12)) 3, type := 4, pos := "subst.go:89", after := #[{ on := 11, ground := Go.Ground.data }, { on := 9, ground := Go.Ground.guard }], guard := some (9, false) }) (v := undef) rfl (by kernel_rfl) (by kernel_rfl) (by kernel_rfl) (fun _ _ _ h => h) (Or.inr ⟨by rfl, rfl⟩) (by assumption) ?_
                  (try simp only [Act.put, List.setIfInBounds_toArray, List.set_cons_zero, List.set_cons_succ])
                  refine wpAnyH_take (i := 13) (oi := { dst := some 66, op := Go.Op.move (Go.Operand.tmp 65), type := 4, pos := "subst.go:89", after := #[{ on := 12, ground := Go.Ground.data }, { on := 9, ground := Go.Ground.chain }, { on := 9, ground := Go.Ground.guard }], guard := some (9, false) }) (v := undef) rfl (by kernel_rfl) (by kernel_rfl) (by kernel_rfl) (fun _ _ _ h => h) (Or.inr ⟨by rfl, rfl⟩) (by assumption) ?_
                  (try simp only [Act.put, List.setIfInBounds_toArray, List.set_cons_zero, List.set_cons_succ])
                  refine wpAnyH_take (i := 14) (oi := { dst := some 67, op := Go.Op.move (Go.Operand.tmp 11), type := 3, pos := "subst.go:89", after := #[{ on := 13, ground := Go.Ground.guard }], guard := some (13, true) }) (v := undef) rfl (by kernel_rfl) (by kernel_rfl) (by kernel_rfl) (fun _ _ _ h => h) (Or.inr ⟨by rfl, rfl⟩) (by assumption) ?_
                  (try simp only [Act.put, List.setIfInBounds_toArray, List.set_cons_zero, List.set_cons_succ])
                  refine wpAnyH_take (i := 15) (oi := { dst := some 68, op := Go.Op.binOp Go.BinOp.eql 3 (Go.Operand.tmp 67) (Go.Operand.const (Go.Value.int Go.IntKind.i64 2)) 3, type := 4, pos := "subst.go:89", after := #[{ on := 14, ground := Go.Ground.data }, { on := 13, ground := Go.Ground.guard }], guard := some (13, true) }) (v := undef) rfl (by kernel_rfl) (by kernel_rfl) (by kernel_rfl) (fun _ _ _ h => h) (Or.inr ⟨by rfl, rfl⟩) (by assumption) ?_
                  (try simp only [Act.put, List.setIfInBounds_toArray, List.set_cons_zero, List.set_cons_succ])
                  refine wpAnyH_take (i := 16) (oi := { dst := some 69, op := Go.Op.pick (Go.Operand.tmp 66) (Go.Operand.tmp 68) (Go.Operand.const (Go.Value.bool false)), type := 4, pos := "subst.go:89", after := #[{ on := 13, ground := Go.Ground.data }, { on := 15, ground := Go.Ground.data }, { on := 9, ground := Go.Ground.guard }], guard := some (9, false) }) (v := undef) rfl (by kernel_rfl) (by kernel_rfl) (by kernel_rfl) (fun _ _ _ h => h) (Or.inr ⟨by rfl, rfl⟩) (by assumption) ?_
                  (try simp only [Act.put, List.setIfInBounds_toArray, List.set_cons_zero, List.set_cons_succ])
                  refine wpAnyH_take (i := 17) (oi := { dst := some 70, op := Go.Op.pick (Go.Operand.tmp 62) (Go.Operand.const (Go.Value.bool true)) (Go.Operand.tmp 69), type := 4, pos := "subst.go:89", after := #[{ on := 9, ground := Go.Ground.data }, { on := 16, ground := Go.Ground.data }], guard := none }) (v := ?_) rfl (by kernel_rfl) (by kernel_rfl) (by kernel_rfl) (fun _ _ _ h => h) (Or.inl ⟨by rfl, ?_⟩) (by assumption) ?_
                  rotate_left 1
                  · ((intro w hSw; (try dsimp only at hSw); go_simp) <;> with_reducible rfl)
                  (try simp only [Act.put, List.setIfInBounds_toArray, List.set_cons_zero, List.set_cons_succ])
                  refine wpAnyH_ready (rs := [18]) (by kernel_rfl) (by simp) ?_
                  refine AllReadyH.cons (o := { dst := some 71, op := Go.Op.call { callee := Go.Callee.value (Go.Operand.func 39), args := #[Go.Operand.tmp 53, Go.Operand.tmp 54, Go.Operand.tmp 60, Go.Operand.tmp 70], argTypes := #[47, 24, 3, 4] }, type := 33, pos := "subst.go:89", after := #[{ on := 0, ground := Go.Ground.data }, { on := 1, ground := Go.Ground.data }, { on := 7, ground := Go.Ground.data }, { on := 17, ground := Go.Ground.data }, { on := 13, ground := Go.Ground.chain }], guard := none }) rfl (fun K hK => ?_) ?_
                  · go_simp
                    ((go_at_call 39; ((with_reducible refine Calls.mono CALLA.out ?_); rintro e wn ⟨⟨u, a2, n2, cap2, ok, rfl, hbn, hans⟩, hZ⟩; obtain ⟨⟨g0, g1, g2, g3, g4⟩, k0, k1, k2, k3, k4⟩ := And.intro (five_cells hZ) (five_free hZ); have HANS := Lib.hid hans; clear hans; have hh := held_call (held_drew (held_alloc hH0 _)) hbn)))
                    refine hK.out _ _ ?_ (fun hHeld => ?_)
                    · (try dsimp only)
                      (((with_reducible refine held_and2 ?_ d0 hpc); repeat (first | with_reducible assumption | with_reducible exact hH0 | with_reducible refine held_drew ?_ | with_reducible refine held_alloc ?_ _ | ((with_reducible refine held_set ?_ ?hh _); (case hh => simp)))))
                    clear hK K
                    (try simp only [Act.put, List.setIfInBounds_toArray, List.set_cons_zero, List.set_cons_succ])
                    refine wpAnyH_take (i := 19) (oi := { dst := some 52, op := Go.Op.move (Go.Operand.tmp 71), type := 33, pos := "subst.go:89", after := #[{ on := 18, ground := Go.Ground.data }], guard := none }) (v := ?_) rfl (by kernel_rfl) (by kernel_rfl) (by kernel_rfl) (fun _ _ _ h => h) (Or.inl ⟨by rfl, ?_⟩) (by assumption) ?_
                    rotate_left 1
                    · ((intro w hSw; (try dsimp only at hSw); go_simp) <;> with_reducible rfl)
                    (try simp only [Act.put, List.setIfInBounds_toArray, List.set_cons_zero, List.set_cons_succ])
                    refine wpAnyH_take (i := 20) (oi := { dst := some 72, op := Go.Op.extract (Go.Operand.tmp 52) 0, type := 24, pos := "subst.go:89", after := #[{ on := 19, ground := Go.Ground.data }], guard := none }) (v := ?_) rfl (by kernel_rfl) (by kernel_rfl) (by kernel_rfl) (fun _ _ _ h => h) (Or.inl ⟨by rfl, ?_⟩) (by assumption) ?_
                    rotate_left 1
                    · ((intro w hSw; (try dsimp only at hSw); go_simp) <;> with_reducible rfl)
                    (try simp only [Act.put, List.setIfInBounds_toArray, List.set_cons_zero, List.set_cons_succ])
                    refine wpAnyH_take (i := 21) (oi := { dst := some 73, op := Go.Op.extract (Go.Operand.tmp 52) 1, type := 4, pos := "subst.go:89", after := #[{ on := 19, ground := Go.Ground.data }, { on := 23, ground := Go.Ground.gcOnly Go.Departure.lateStores }], guard := none }) (v := ?_) rfl (by kernel_rfl) (by kernel_rfl) (by kernel_rfl) (fun _ _ _ h => h) (Or.inl ⟨by rfl, ?_⟩) (by assumption) ?_
                    rotate_left 1
                    · ((intro w hSw; (try dsimp only at hSw); go_simp) <;> with_reducible rfl)
                    (try simp only [Act.put, List.setIfInBounds_toArray, List.set_cons_zero, List.set_cons_succ])
                    refine wpAnyH_ready (rs := [23]) (by kernel_rfl) (by simp) ?_
                    refine AllReadyH.cons (o := { dst := none, op := Go.Op.store 24 (Go.Operand.tmp 13) (Go.Operand.tmp 72), type := 0, pos := "subst.go:89", after := #[{ on := 22, ground := Go.Ground.data }, { on := 20, ground := Go.Ground.data }, { on := 18, ground := Go.Ground.chain }, { on := 0, ground := Go.Ground.phase }, { on := 1, ground := Go.Ground.phase }, { on := 2, ground := Go.Ground.phase }, { on := 3, ground := Go.Ground.phase }, { on := 4, ground := Go.Ground.phase }, { on := 5, ground := Go.Ground.phase }, { on := 6, ground := Go.Ground.phase }, { on := 7, ground := Go.Ground.phase }, { on := 8, ground := Go.Ground.phase }, { on := 9, ground := Go.Ground.phase }, { on := 10, ground := Go.Ground.phase }, { on := 11, ground := Go.Ground.phase }, { on := 12, ground := Go.Ground.phase }, { on := 13, ground := Go.Ground.phase }, { on := 14, ground := Go.Ground.phase }, { on := 15, ground := Go.Ground.phase }, { on := 16, ground := Go.Ground.phase }, { on := 17, ground := Go.Ground.phase }, { on := 18, ground := Go.Ground.phase }, { on := 19, ground := Go.Ground.phase }, { on := 20, ground := Go.Ground.phase }, { on := 21, ground := Go.Ground.textOnly Go.Departure.lateStores }, { on := 22, ground := Go.Ground.phase }], guard := none }) rfl (fun K hK => ?_) ?_
                    · go_simp
                      refine hK.out _ _ ?_ (fun hHeld => ?_)
                      · (try dsimp only)
                        (((with_reducible refine held_and2 ?_ d0 hpc); repeat (first | with_reducible assumption | with_reducible exact hH0 | with_reducible refine held_drew ?_ | with_reducible refine held_alloc ?_ _ | ((with_reducible refine held_set ?_ ?hh _); (case hh => simp)))))
                      clear hK K
                      (try simp only [Act.put, List.setIfInBounds_toArray, List.set_cons_zero, List.set_cons_succ])
                      refine wpAnyH_take (i := 24) (oi := { dst := some 14, op := Go.Op.assign (Go.Operand.tmp 73), type := 4, pos := "subst.go:89", after := #[{ on := 21, ground := Go.Ground.data }, { on := 23, ground := Go.Ground.chain }, { on := 0, ground := Go.Ground.phase }, { on := 1, ground := Go.Ground.phase }, { on := 2, ground := Go.Ground.phase }, { on := 3, ground := Go.Ground.phase }, { on := 4, ground := Go.Ground.phase }, { on := 5, ground := Go.Ground.phase }, { on := 6, ground := Go.Ground.phase }, { on := 7, ground := Go.Ground.phase }, { on := 8, ground := Go.Ground.phase }, { on := 9, ground := Go.Ground.phase }, { on := 10, ground := Go.Ground.phase }, { on := 11, ground := Go.Ground.phase }, { on := 12, ground := Go.Ground.phase }, { on := 13, ground := Go.Ground.phase }, { on := 14, ground := Go.Ground.phase }, { on := 15, ground := Go.Ground.phase }, { on := 16, ground := Go.Ground.phase }, { on := 17, ground := Go.Ground.phase }, { on := 18, ground := Go.Ground.phase }, { on := 19, ground := Go.Ground.phase }, { on := 20, ground := Go.Ground.phase }, { on := 21, ground := Go.Ground.phase }, { on := 22, ground := Go.Ground.phase }, { on := 23, ground := Go.Ground.phase }], guard := none }) (v := ?_) rfl (by kernel_rfl) (by kernel_rfl) (by kernel_rfl) (fun _ _ _ h => h) (Or.inl ⟨by rfl, ?_⟩) (by assumption) ?_
                      rotate_left 1
                      · ((intro w hSw; (try dsimp only at hSw); go_simp) <;> with_reducible rfl)
                      (try simp only [Act.put, List.setIfInBounds_toArray, List.set_cons_zero, List.set_cons_succ])
                      refine wpAnyH_done (by kernel_rfl) ?_ _
                      rcases HANS.out with ⟨rfl, hr, rfl, hl2⟩ | ⟨rfl, hr⟩
                      · have HFI2 := Lib.hid (HFX.out u hr)
                        have hW : Held wr t.kids[q] (.slice a' t.kids[q].kids.length cap') (((((wn.setCell ⟨wr.heap.size + 1, 0, none⟩ (.int .i64 u.k)).setCell ⟨wr.heap.size + 1, 1, none⟩ (.int .i64 u.i)).setCell ⟨wr.heap.size + 1, 2, none⟩ (.int .i64 u.j)).setCell ⟨wr.heap.size + 1, 3, none⟩ (.int .i64 u.n)).setCell ⟨wr.heap.size + 1, 4, none⟩ (.slice a2 u.kids.length cap2)) := held_five hh _ _ _ _ _
                        have hLW : LiesP (((((wn.setCell ⟨wr.heap.size + 1, 0, none⟩ (.int .i64 u.k)).setCell ⟨wr.heap.size + 1, 1, none⟩ (.int .i64 u.i)).setCell ⟨wr.heap.size + 1, 2, none⟩ (.int .i64 u.j)).setCell ⟨wr.heap.size + 1, 3, none⟩ (.int .i64 u.n)).setCell ⟨wr.heap.size + 1, 4, none⟩ (.slice a2 u.kids.length cap2)) (Own wr.heap.size (((((wn.setCell ⟨wr.heap.size + 1, 0, none⟩ (.int .i64 u.k)).setCell ⟨wr.heap.size + 1, 1, none⟩ (.int .i64 u.i)).setCell ⟨wr.heap.size + 1, 2, none⟩ (.int .i64 u.j)).setCell ⟨wr.heap.size + 1, 3, none⟩ (.int .i64 u.n)).setCell ⟨wr.heap.size + 1, 4, none⟩ (.slice a2 u.kids.length cap2))) u.kids (.slice a2 u.kids.length cap2) := liesP_five (hl2.from (B' := wr.heap.size + 2) (by simp)) _ _ _ _ _
                        have hN : (((((wn.setCell ⟨wr.heap.size + 1, 0, none⟩ (.int .i64 u.k)).setCell ⟨wr.heap.size + 1, 1, none⟩ (.int .i64 u.i)).setCell ⟨wr.heap.size + 1, 2, none⟩ (.int .i64 u.j)).setCell ⟨wr.heap.size + 1, 3, none⟩ (.int .i64 u.n)).setCell ⟨wr.heap.size + 1, 4, none⟩ (.slice a2 u.kids.length cap2)).heap[wr.heap.size + 1]? = some (boxOf u (.slice a2 u.kids.length cap2)) := five_set hZ
                        clear hh hbn hl2 hZ g0 g1 g2 g3 g4 k0 k1 k2 k3 k4
                        generalize (((((wn.setCell ⟨wr.heap.size + 1, 0, none⟩ (.int .i64 u.k)).setCell ⟨wr.heap.size + 1, 1, none⟩ (.int .i64 u.i)).setCell ⟨wr.heap.size + 1, 2, none⟩ (.int .i64 u.j)).setCell ⟨wr.heap.size + 1, 3, none⟩ (.int .i64 u.n)).setCell ⟨wr.heap.size + 1, 4, none⟩ (.slice a2 u.kids.length cap2)) = W at hW hLW hN ⊢
                        have hdW := desk_trans hdk (below_from (held_below hW) hsz)
                        have hfW := hfu.later (held_below hW)
                        have hxq : q < xs.length := by rw [HXL.out]; exact hlt
                        have hLF := hfu.fresh hsz hLW
                        obtain ⟨-, -, q2⟩ := desk_blocks hdW
                        obtain ⟨y0, y1, y2, y3, y4⟩ := five_cells q2
                        obtain ⟨p0, p1, p2, p3, p4⟩ := five_cells hN
                        obtain ⟨x0, x1, x2, x3, x4⟩ := hfW.node q hxq
                        obtain ⟨cs, hcs⟩ := hfW.open'
                        have f0 := open_unfrozen hcs (q * 5)
                        have f1 := open_unfrozen hcs (q * 5 + 1)
                        have f2 := open_unfrozen hcs (q * 5 + 2)
                        have f3 := open_unfrozen hcs (q * 5 + 3)
                        have f4 := open_unfrozen hcs (q * 5 + 4)
                        have HFW := Lib.hid hfW
                        have HLF := Lib.hid hLF
                        have HFU := Lib.hid hfu
                        clear hcs hN hLW hW hfW hLF hfu d0 d1 d2 d3 d4 z0 z1 z2 z3 z4
                        go_wp2
                        go_roundw
                        case rel => exact ⟨q + 1, xs.set q (u, .slice a2 u.kids.length cap2), hlt, by go_num, by simp [Hid, HXL.out], by rw [Hid, optK_next hlt HXS.out hr, List.map_set, take_set_next _ _ _ (by simpa using hxq)], HFW.out.fill hxq HFI2.out HLF.out, desk_put hdW (Nat.le_refl _) _ _ _⟩
                        case measure => simp [intOf]; omega
                      · have hW : Held wr t.kids[q] (.slice a' t.kids[q].kids.length cap') (((((wn.setCell ⟨wr.heap.size + 1, 0, none⟩ (.int .i64 u.k)).setCell ⟨wr.heap.size + 1, 1, none⟩ (.int .i64 u.i)).setCell ⟨wr.heap.size + 1, 2, none⟩ (.int .i64 u.j)).setCell ⟨wr.heap.size + 1, 3, none⟩ (.int .i64 u.n)).setCell ⟨wr.heap.size + 1, 4, none⟩ (.slice a2 n2 cap2)) := held_five hh _ _ _ _ _
                        clear hh hbn hZ g0 g1 g2 g3 g4 k0 k1 k2 k3 k4
                        generalize (((((wn.setCell ⟨wr.heap.size + 1, 0, none⟩ (.int .i64 u.k)).setCell ⟨wr.heap.size + 1, 1, none⟩ (.int .i64 u.i)).setCell ⟨wr.heap.size + 1, 2, none⟩ (.int .i64 u.j)).setCell ⟨wr.heap.size + 1, 3, none⟩ (.int .i64 u.n)).setCell ⟨wr.heap.size + 1, 4, none⟩ (.slice a2 n2 cap2)) = W at hW ⊢
                        have hdW := desk_trans hdk (below_from (held_below hW) hsz)
                        obtain ⟨-, q1, -⟩ := desk_blocks hdW
                        obtain ⟨z0, z1, z2, z3, z4⟩ := five_cells q1
                        obtain ⟨f0, f1, f2, f3, f4⟩ := five_free q1
                        go_wp2
                        (try simp only [Exit.inBlock, Exit.then])
                        refine bodyPost_ret (results_cell_tmp rfl _ _ (w.heap.size + 1) _ _ _ du rfl (five_set q1) hu1 (by cases du <;> first | rfl | exact hu2) size_term) rfl ?_
                        exact GivesN.wide ⟨((((((desk_under hdW).setCell (by simp) _).setCell (by simp) _).setCell (by simp) _).setCell (by simp) _).setCell (by simp) _), Or.inr ⟨Tm.zero, none, 0, 0, by rw [HEQ.out, optK_stop hlt hr]; rfl, rfl⟩⟩ HBP.out
                    exact AllReadyH.nil
                  exact AllReadyH.nil
                exact AllReadyH.nil
              exact AllReadyH.nil
            | false =>
              by_cases h12 : t.k = 12
              · have ek12 : (t.k == 12) = true := by simpa using h12
                obtain ⟨e2v, heq2⟩ : ∃ e2v, ((q : Int) == 2) = e2v := ⟨_, rfl⟩
                have hq2 : (q == 2) = e2v := by rw [← heq2]; exact int_two q
                have hF : (false || (t.k == 12 && q == 2)) = e2v := by rw [ek12, hq2]; rfl
                have hc := HCALL.out
                rw [hF] at hc
                have hH0 := held_start wr t.kids[q] (.slice a' t.kids[q].kids.length cap')
                have CALL2 : ∀ w', Held wr t.kids[q] (.slice a' t.kids[q].kids.length cap') w' → Calls Try.prog 39 #[.agg #[.func (.func fid) #[] #[.pointer (some ⟨bv, 0, none⟩)]], tv t.kids[q] (.slice a' t.kids[q].kids.length cap'), .int .i64 (b + bindsN t.k q), .bool e2v] w' (GivesY (t.kids[q].putG g (b + bindsN t.k q) (false || (t.k == 12 && q == 2))) w') := fun w' h' => (hc w' h').mono fun e w'' h => by rw [← hF] at h; exact h.ans
                have CALLB := Lib.hid (CALL2 (wr.alloc (.cells #[.int .i64 t.kids[q].k, .int .i64 t.kids[q].i, .int .i64 t.kids[q].j, .int .i64 t.kids[q].n, .slice a' t.kids[q].kids.length cap'] 24)).drew (held_drew hH0))
                have CALLA := Lib.hid ((CALL2 ((wr.alloc (.cells #[.int .i64 t.kids[q].k, .int .i64 t.kids[q].i, .int .i64 t.kids[q].j, .int .i64 t.kids[q].n, .slice a' t.kids[q].kids.length cap'] 24)).alloc zeroObj).drew (held_drew (held_alloc hH0 _))).mono fun e w'' h => And.intro h (zero_blocks_new h.below))
                clear hc HCALL CALL2 hF h12 hq2
                go_wp2_with fail
                refine wp_region_held_drew (S := fun w' => Held wr t.kids[q] (.slice a' t.kids[q].kids.length cap') w' ∧ w'.cell? ⟨w.heap.size, 0, none⟩ = some (.int .i64 t.k) ∧ w'.cell? ⟨wi.heap.size, 0, none⟩ = some (.func (.func fid) #[] #[.pointer (some ⟨bv, 0, none⟩)]) ∧ w'.cell? ⟨wr.heap.size, 0, none⟩ = some (.int .i64 t.kids[q].k) ∧ w'.cell? ⟨wr.heap.size, 1, none⟩ = some (.int .i64 t.kids[q].i) ∧ w'.cell? ⟨wr.heap.size, 2, none⟩ = some (.int .i64 t.kids[q].j) ∧ w'.cell? ⟨wr.heap.size, 3, none⟩ = some (.int .i64 t.kids[q].n) ∧ w'.cell? ⟨wr.heap.size, 4, none⟩ = some (.slice a' t.kids[q].kids.length cap')) (by kernel_rfl) ?_ (fun hHeld => ?_)
                · (try dsimp only)
                  (((with_reducible refine held_and2 ?_ d0 hpc); repeat (first | with_reducible assumption | with_reducible exact hH0 | with_reducible refine held_drew ?_ | with_reducible refine held_alloc ?_ _ | ((with_reducible refine held_set ?_ ?hh _); (case hh => simp)))))
                refine wpAnyH_take (i := 0) (oi := { dst := some 53, op := Go.Op.load 47 (Go.Operand.tmp 4), type := 47, pos := "subst.go:89", after := #[], guard := none }) (v := ?_) rfl (by kernel_rfl) (by kernel_rfl) (by kernel_rfl) (fun _ _ _ h => h) (Or.inl ⟨by rfl, ?_⟩) (by assumption) ?_
                rotate_left 1
                · ((intro w hSw; (try dsimp only at hSw); go_simp) <;> with_reducible rfl)
                (try simp only [Act.put, List.setIfInBounds_toArray, List.set_cons_zero, List.set_cons_succ])
                refine wpAnyH_take (i := 1) (oi := { dst := some 54, op := Go.Op.load 24 (Go.Operand.tmp 12), type := 24, pos := "subst.go:89", after := #[], guard := none }) (v := ?_) rfl (by kernel_rfl) (by kernel_rfl) (by kernel_rfl) (fun _ _ _ h => h) (Or.inl ⟨by rfl, ?_⟩) (by assumption) ?_
                rotate_left 1
                · ((intro w hSw; (try dsimp only at hSw); go_simp) <;> with_reducible rfl)
                (try simp only [Act.put, List.setIfInBounds_toArray, List.set_cons_zero, List.set_cons_succ])
                refine wpAnyH_take (i := 2) (oi := { dst := some 55, op := Go.Op.move (Go.Operand.tmp 2), type := 3, pos := "subst.go:89", after := #[], guard := none }) (v := ?_) rfl (by kernel_rfl) (by kernel_rfl) (by kernel_rfl) (fun _ _ _ h => h) (Or.inl ⟨by rfl, ?_⟩) (by assumption) ?_
                rotate_left 1
                · ((intro w hSw; (try dsimp only at hSw); go_simp) <;> with_reducible rfl)
                (try simp only [Act.put, List.setIfInBounds_toArray, List.set_cons_zero, List.set_cons_succ])
                refine wpAnyH_take (i := 3) (oi := { dst := some 56, op := Go.Op.fieldAddr 24 (Go.Operand.tmp 5) 0, type := 0, pos := "subst.go:89", after := #[], guard := none }) (v := ?_) rfl (by kernel_rfl) (by kernel_rfl) (by kernel_rfl) (fun _ _ _ h => h) (Or.inl ⟨by rfl, ?_⟩) (by assumption) ?_
                rotate_left 1
                · ((intro w hSw; (try dsimp only at hSw); go_simp) <;> with_reducible rfl)
                (try simp only [Act.put, List.setIfInBounds_toArray, List.set_cons_zero, List.set_cons_succ])
                refine wpAnyH_take (i := 4) (oi := { dst := some 57, op := Go.Op.load 3 (Go.Operand.tmp 56), type := 3, pos := "subst.go:89", after := #[{ on := 3, ground := Go.Ground.data }], guard := none }) (v := ?_) rfl (by kernel_rfl) (by kernel_rfl) (by kernel_rfl) (fun _ _ _ h => h) (Or.inl ⟨by rfl, ?_⟩) (by assumption) ?_
                rotate_left 1
                · ((intro w hSw; (try dsimp only at hSw); go_simp) <;> with_reducible rfl)
                (try simp only [Act.put, List.setIfInBounds_toArray, List.set_cons_zero, List.set_cons_succ])
                refine wpAnyH_take (i := 5) (oi := { dst := some 58, op := Go.Op.move (Go.Operand.tmp 11), type := 3, pos := "subst.go:89", after := #[], guard := none }) (v := ?_) rfl (by kernel_rfl) (by kernel_rfl) (by kernel_rfl) (fun _ _ _ h => h) (Or.inl ⟨by rfl, ?_⟩) (by assumption) ?_
                rotate_left 1
                · ((intro w hSw; (try dsimp only at hSw); go_simp) <;> with_reducible rfl)
                (try simp only [Act.put, List.setIfInBounds_toArray, List.set_cons_zero, List.set_cons_succ])
                refine wpAnyH_take (i := 8) (oi := { dst := some 61, op := Go.Op.move (Go.Operand.tmp 3), type := 4, pos := "subst.go:89", after := #[], guard := none }) (v := ?_) rfl (by kernel_rfl) (by kernel_rfl) (by kernel_rfl) (fun _ _ _ h => h) (Or.inl ⟨by rfl, ?_⟩) (by assumption) ?_
                rotate_left 1
                · ((intro w hSw; (try dsimp only at hSw); go_simp) <;> with_reducible rfl)
                (try simp only [Act.put, List.setIfInBounds_toArray, List.set_cons_zero, List.set_cons_succ])
                refine wpAnyH_ready (rs := [6, 22]) (by kernel_rfl) (by simp) ?_
                refine AllReadyH.cons (o := { dst := some 59, op := Go.Op.call { callee := Go.Callee.value (Go.Operand.func 52), args := #[Go.Operand.tmp 57, Go.Operand.tmp 58], argTypes := #[3, 3] }, type := 3, pos := "subst.go:89", after := #[{ on := 4, ground := Go.Ground.data }, { on := 5, ground := Go.Ground.data }], guard := none }) rfl (fun K hK => ?_) ?_
                · go_simp
                  ((go_at_call 52; refine (binds_any _ _ _).mono ?_; rintro e w' ⟨rfl, rfl⟩))
                  refine hK.out _ _ ?_ (fun hHeld => ?_)
                  · (try dsimp only)
                    (((with_reducible refine held_and2 ?_ d0 hpc); repeat (first | with_reducible assumption | with_reducible exact hH0 | with_reducible refine held_drew ?_ | with_reducible refine held_alloc ?_ _ | ((with_reducible refine held_set ?_ ?hh _); (case hh => simp)))))
                  clear hK K
                  (try simp only [Act.put, List.setIfInBounds_toArray, List.set_cons_zero, List.set_cons_succ])
                  refine wpAnyH_take (i := 7) (oi := { dst := some 60, op := Go.Op.binOp Go.BinOp.add 3 (Go.Operand.tmp 55) (Go.Operand.tmp 59) 3, type := 3, pos := "subst.go:89", after := #[{ on := 2, ground := Go.Ground.data }, { on := 6, ground := Go.Ground.data }], guard := none }) (v := ?_) rfl (by kernel_rfl) (by kernel_rfl) (by kernel_rfl) (fun _ _ _ h => h) (Or.inl ⟨by rfl, ?_⟩) (by assumption) ?_
                  rotate_left 1
                  · ((intro w hSw; (try dsimp only at hSw); go_simp) <;> with_reducible rfl)
                  (try simp only [Act.put, List.setIfInBounds_toArray, List.set_cons_zero, List.set_cons_succ])
                  refine wpAnyH_take (i := 9) (oi := { dst := some 62, op := Go.Op.move (Go.Operand.tmp 61), type := 4, pos := "subst.go:89", after := #[{ on := 8, ground := Go.Ground.data }, { on := 6, ground := Go.Ground.chain }], guard := none }) (v := ?_) rfl (by kernel_rfl) (by kernel_rfl) (by kernel_rfl) (fun _ _ _ h => h) (Or.inl ⟨by rfl, ?_⟩) (by assumption) ?_
                  rotate_left 1
                  · ((intro w hSw; (try dsimp only at hSw); go_simp) <;> with_reducible rfl)
                  (try simp only [Act.put, List.setIfInBounds_toArray, List.set_cons_zero, List.set_cons_succ])
                  refine wpAnyH_take (i := 10) (oi := { dst := some 63, op := Go.Op.fieldAddr 24 (Go.Operand.tmp 5) 0, type := 0, pos := "subst.go:89", after := #[{ on := 9, ground := Go.Ground.guard }], guard := some (9, false) }) (v := ?_) rfl (by kernel_rfl) (by kernel_rfl) (by kernel_rfl) (fun _ _ _ h => h) (Or.inl ⟨by rfl, ?_⟩) (by assumption) ?_
                  rotate_left 1
                  · ((intro w hSw; (try dsimp only at hSw); go_simp) <;> with_reducible rfl)
                  (try simp only [Act.put, List.setIfInBounds_toArray, List.set_cons_zero, List.set_cons_succ])
                  refine wpAnyH_take (i := 11) (oi := { dst := some 64, op := Go.Op.load 3 (Go.Operand.tmp 63), type := 3, pos := "subst.go:89", after := #[{ on := 10, ground := Go.Ground.data }, { on := 9, ground := Go.Ground.guard }], guard := some (9, false) }) (v := ?_) rfl (by kernel_rfl) (by kernel_rfl) (by kernel_rfl) (fun _ _ _ h => h) (Or.inl ⟨by rfl, ?_⟩) (by assumption) ?_
                  rotate_left 1
                  · ((intro w hSw; (try dsimp only at hSw); go_simp) <;> with_reducible rfl)
                  (try simp only [Act.put, List.setIfInBounds_toArray, List.set_cons_zero, List.set_cons_succ])
                  refine wpAnyH_take (i := 12) (oi := { dst := some 65, op := Go.Op.binOp Go.BinOp.eql 3 (Go.Operand.tmp 64) (Go.Operand.const (Go.Value.int Go.IntKind.i64 12)) 3, type := 4, pos := "subst.go:89", after := #[{ on := 11, ground := Go.Ground.data }, { on := 9, ground := Go.Ground.guard }], guard := some (9, false) }) (v := ?_) rfl (by kernel_rfl) (by kernel_rfl) (by kernel_rfl) (fun _ _ _ h => h) (Or.inl ⟨by rfl, ?_⟩) (by assumption) ?_
                  rotate_left 1
                  · ((intro w hSw; (try dsimp only at hSw); go_simp) <;> with_reducible rfl)
                  (try simp only [Act.put, List.setIfInBounds_toArray, List.set_cons_zero, List.set_cons_succ])
                  refine wpAnyH_take (i := 13) (oi := { dst := some 66, op := Go.Op.move (Go.Operand.tmp 65), type := 4, pos := "subst.go:89", after := #[{ on := 12, ground := Go.Ground.data }, { on := 9, ground := Go.Ground.chain }, { on := 9, ground := Go.Ground.guard }], guard := some (9, false) }) (v := ?_) rfl (by kernel_rfl) (by kernel_rfl) (by kernel_rfl) (fun _ _ _ h => h) (Or.inl ⟨by rfl, ?_⟩) (by assumption) ?_
                  rotate_left 1
                  · ((intro w hSw; (try dsimp only at hSw); go_simp) <;> with_reducible rfl)
                  (try simp only [Act.put, List.setIfInBounds_toArray, List.set_cons_zero, List.set_cons_succ])
                  refine wpAnyH_take (i := 14) (oi := { dst := some 67, op := Go.Op.move (Go.Operand.tmp 11), type := 3, pos := "subst.go:89", after := #[{ on := 13, ground := Go.Ground.guard }], guard := some (13, true) }) (v := ?_) rfl (by kernel_rfl) (by kernel_rfl) (by kernel_rfl) (fun _ _ _ h => h) (Or.inl ⟨by rfl, ?_⟩) (by assumption) ?_
                  rotate_left 1
                  · ((intro w hSw; (try dsimp only at hSw); go_simp) <;> with_reducible rfl)
                  (try simp only [Act.put, List.setIfInBounds_toArray, List.set_cons_zero, List.set_cons_succ])
                  refine wpAnyH_take (i := 15) (oi := { dst := some 68, op := Go.Op.binOp Go.BinOp.eql 3 (Go.Operand.tmp 67) (Go.Operand.const (Go.Value.int Go.IntKind.i64 2)) 3, type := 4, pos := "subst.go:89", after := #[{ on := 14, ground := Go.Ground.data }, { on := 13, ground := Go.Ground.guard }], guard := some (13, true) }) (v := ?_) rfl (by kernel_rfl) (by kernel_rfl) (by kernel_rfl) (fun _ _ _ h => h) (Or.inl ⟨by rfl, ?_⟩) (by assumption) ?_
                  rotate_left 1
                  · ((intro w hSw; (try dsimp only at hSw); go_simp) <;> with_reducible rfl)
                  (try simp only [Act.put, List.setIfInBounds_toArray, List.set_cons_zero, List.set_cons_succ])
                  refine wpAnyH_take (i := 16) (oi := { dst := some 69, op := Go.Op.pick (Go.Operand.tmp 66) (Go.Operand.tmp 68) (Go.Operand.const (Go.Value.bool false)), type := 4, pos := "subst.go:89", after := #[{ on := 13, ground := Go.Ground.data }, { on := 15, ground := Go.Ground.data }, { on := 9, ground := Go.Ground.guard }], guard := some (9, false) }) (v := ?_) rfl (by kernel_rfl) (by kernel_rfl) (by kernel_rfl) (fun _ _ _ h => h) (Or.inl ⟨by rfl, ?_⟩) (by assumption) ?_
                  rotate_left 1
                  · ((intro w hSw; (try dsimp only at hSw); go_simp) <;> with_reducible rfl)
                  (try simp only [Act.put, List.setIfInBounds_toArray, List.set_cons_zero, List.set_cons_succ])
                  refine wpAnyH_take (i := 17) (oi := { dst := some 70, op := Go.Op.pick (Go.Operand.tmp 62) (Go.Operand.const (Go.Value.bool true)) (Go.Operand.tmp 69), type := 4, pos := "subst.go:89", after := #[{ on := 9, ground := Go.Ground.data }, { on := 16, ground := Go.Ground.data }], guard := none }) (v := ?_) rfl (by kernel_rfl) (by kernel_rfl) (by kernel_rfl) (fun _ _ _ h => h) (Or.inl ⟨by rfl, ?_⟩) (by assumption) ?_
                  rotate_left 1
                  · ((intro w hSw; (try dsimp only at hSw); go_simp) <;> with_reducible rfl)
                  (try simp only [Act.put, List.setIfInBounds_toArray, List.set_cons_zero, List.set_cons_succ])
                  refine wpAnyH_ready (rs := [18, 22]) (by kernel_rfl) (by simp) ?_
                  refine AllReadyH.cons (o := { dst := some 71, op := Go.Op.call { callee := Go.Callee.value (Go.Operand.func 39), args := #[Go.Operand.tmp 53, Go.Operand.tmp 54, Go.Operand.tmp 60, Go.Operand.tmp 70], argTypes := #[47, 24, 3, 4] }, type := 33, pos := "subst.go:89", after := #[{ on := 0, ground := Go.Ground.data }, { on := 1, ground := Go.Ground.data }, { on := 7, ground := Go.Ground.data }, { on := 17, ground := Go.Ground.data }, { on := 13, ground := Go.Ground.chain }], guard := none }) rfl (fun K hK => ?_) ?_
                  · go_simp
                    ((go_at_call 39; ((with_reducible refine Calls.mono CALLB.out ?_); rintro e wn ⟨u, a2, n2, cap2, ok, rfl, hbn, hans⟩; have HANS := Lib.hid hans; clear hans; have hh := held_call (held_drew hH0) hbn)))
                    refine hK.out _ _ ?_ (fun hHeld => ?_)
                    · (try dsimp only)
                      (((with_reducible refine held_and2 ?_ d0 hpc); repeat (first | with_reducible assumption | with_reducible exact hH0 | with_reducible refine held_drew ?_ | with_reducible refine held_alloc ?_ _ | ((with_reducible refine held_set ?_ ?hh _); (case hh => simp)))))
                    clear hK K
                    (try simp only [Act.put, List.setIfInBounds_toArray, List.set_cons_zero, List.set_cons_succ])
                    refine wpAnyH_take (i := 19) (oi := { dst := some 52, op := Go.Op.move (Go.Operand.tmp 71), type := 33, pos := "subst.go:89", after := #[{ on := 18, ground := Go.Ground.data }], guard := none }) (v := ?_) rfl (by kernel_rfl) (by kernel_rfl) (by kernel_rfl) (fun _ _ _ h => h) (Or.inl ⟨by rfl, ?_⟩) (by assumption) ?_
                    rotate_left 1
                    · ((intro w hSw; (try dsimp only at hSw); go_simp) <;> with_reducible rfl)
                    (try simp only [Act.put, List.setIfInBounds_toArray, List.set_cons_zero, List.set_cons_succ])
                    refine wpAnyH_take (i := 20) (oi := { dst := some 72, op := Go.Op.extract (Go.Operand.tmp 52) 0, type := 24, pos := "subst.go:89", after := #[{ on := 19, ground := Go.Ground.data }], guard := none }) (v := ?_) rfl (by kernel_rfl) (by kernel_rfl) (by kernel_rfl) (fun _ _ _ h => h) (Or.inl ⟨by rfl, ?_⟩) (by assumption) ?_
                    rotate_left 1
                    · ((intro w hSw; (try dsimp only at hSw); go_simp) <;> with_reducible rfl)
                    (try simp only [Act.put, List.setIfInBounds_toArray, List.set_cons_zero, List.set_cons_succ])
                    refine wpAnyH_take (i := 21) (oi := { dst := some 73, op := Go.Op.extract (Go.Operand.tmp 52) 1, type := 4, pos := "subst.go:89", after := #[{ on := 19, ground := Go.Ground.data }, { on := 23, ground := Go.Ground.gcOnly Go.Departure.lateStores }], guard := none }) (v := ?_) rfl (by kernel_rfl) (by kernel_rfl) (by kernel_rfl) (fun _ _ _ h => h) (Or.inl ⟨by rfl, ?_⟩) (by assumption) ?_
                    rotate_left 1
                    · ((intro w hSw; (try dsimp only at hSw); go_simp) <;> with_reducible rfl)
                    (try simp only [Act.put, List.setIfInBounds_toArray, List.set_cons_zero, List.set_cons_succ])
                    refine wpAnyH_ready (rs := [22]) (by kernel_rfl) (by simp) ?_
                    refine AllReadyH.cons (o := { dst := some 13, op := Go.Op.alloc 24, type := 0, pos := "subst.go:89", after := #[], guard := none }) rfl (fun K hK => ?_) ?_
                    · go_simp
                      refine hK.out _ _ ?_ (fun hHeld => ?_)
                      · (try dsimp only)
                        (((with_reducible refine held_and2 ?_ d0 hpc); repeat (first | with_reducible assumption | with_reducible exact hH0 | with_reducible refine held_drew ?_ | with_reducible refine held_alloc ?_ _ | ((with_reducible refine held_set ?_ ?hh _); (case hh => simp)))))
                      clear hK K
                      (try simp only [Act.put, List.setIfInBounds_toArray, List.set_cons_zero, List.set_cons_succ])
                      refine wpAnyH_ready (rs := [23]) (by kernel_rfl) (by simp) ?_
                      refine AllReadyH.cons (o := { dst := none, op := Go.Op.store 24 (Go.Operand.tmp 13) (Go.Operand.tmp 72), type := 0, pos := "subst.go:89", after := #[{ on := 22, ground := Go.Ground.data }, { on := 20, ground := Go.Ground.data }, { on := 18, ground := Go.Ground.chain }, { on := 0, ground := Go.Ground.phase }, { on := 1, ground := Go.Ground.phase }, { on := 2, ground := Go.Ground.phase }, { on := 3, ground := Go.Ground.phase }, { on := 4, ground := Go.Ground.phase }, { on := 5, ground := Go.Ground.phase }, { on := 6, ground := Go.Ground.phase }, { on := 7, ground := Go.Ground.phase }, { on := 8, ground := Go.Ground.phase }, { on := 9, ground := Go.Ground.phase }, { on := 10, ground := Go.Ground.phase }, { on := 11, ground := Go.Ground.phase }, { on := 12, ground := Go.Ground.phase }, { on := 13, ground := Go.Ground.phase }, { on := 14, ground := Go.Ground.phase }, { on := 15, ground := Go.Ground.phase }, { on := 16, ground := Go.Ground.phase }, { on := 17, ground := Go.Ground.phase }, { on := 18, ground := Go.Ground.phase }, { on := 19, ground := Go.Ground.phase }, { on := 20, ground := Go.Ground.phase }, { on := 21, ground := Go.Ground.textOnly Go.Departure.lateStores }, { on := 22, ground := Go.Ground.phase }], guard := none }) rfl (fun K hK => ?_) ?_
                      · go_simp
                        refine hK.out _ _ ?_ (fun hHeld => ?_)
                        · (try dsimp only)
                          (((with_reducible refine held_and2 ?_ d0 hpc); repeat (first | with_reducible assumption | with_reducible exact hH0 | with_reducible refine held_drew ?_ | with_reducible refine held_alloc ?_ _ | ((with_reducible refine held_set ?_ ?hh _); (case hh => simp)))))
                        clear hK K
                        (try simp only [Act.put, List.setIfInBounds_toArray, List.set_cons_zero, List.set_cons_succ])
                        refine wpAnyH_take (i := 24) (oi := { dst := some 14, op := Go.Op.assign (Go.Operand.tmp 73), type := 4, pos := "subst.go:89", after := #[{ on := 21, ground := Go.Ground.data }, { on := 23, ground := Go.Ground.chain }, { on := 0, ground := Go.Ground.phase }, { on := 1, ground := Go.Ground.phase }, { on := 2, ground := Go.Ground.phase }, { on := 3, ground := Go.Ground.phase }, { on := 4, ground := Go.Ground.phase }, { on := 5, ground := Go.Ground.phase }, { on := 6, ground := Go.Ground.phase }, { on := 7, ground := Go.Ground.phase }, { on := 8, ground := Go.Ground.phase }, { on := 9, ground := Go.Ground.phase }, { on := 10, ground := Go.Ground.phase }, { on := 11, ground := Go.Ground.phase }, { on := 12, ground := Go.Ground.phase }, { on := 13, ground := Go.Ground.phase }, { on := 14, ground := Go.Ground.phase }, { on := 15, ground := Go.Ground.phase }, { on := 16, ground := Go.Ground.phase }, { on := 17, ground := Go.Ground.phase }, { on := 18, ground := Go.Ground.phase }, { on := 19, ground := Go.Ground.phase }, { on := 20, ground := Go.Ground.phase }, { on := 21, ground := Go.Ground.phase }, { on := 22, ground := Go.Ground.phase }, { on := 23, ground := Go.Ground.phase }], guard := none }) (v := ?_) rfl (by kernel_rfl) (by kernel_rfl) (by kernel_rfl) (fun _ _ _ h => h) (Or.inl ⟨by rfl, ?_⟩) (by assumption) ?_
                        rotate_left 1
                        · ((intro w hSw; (try dsimp only at hSw); go_simp) <;> with_reducible rfl)
                        (try simp only [Act.put, List.setIfInBounds_toArray, List.set_cons_zero, List.set_cons_succ])
                        refine wpAnyH_done (by kernel_rfl) ?_ _
                        rcases HANS.out with ⟨rfl, hr, rfl, hl2⟩ | ⟨rfl, hr⟩
                        · have HFI2 := Lib.hid (HFX.out u hr)
                          have hW : Held wr t.kids[q] (.slice a' t.kids[q].kids.length cap') (wn.alloc (.cells #[.int .i64 u.k, .int .i64 u.i, .int .i64 u.j, .int .i64 u.n, .slice a2 u.kids.length cap2] 24)) := held_alloc hh _
                          have hLW : LiesP (wn.alloc (.cells #[.int .i64 u.k, .int .i64 u.i, .int .i64 u.j, .int .i64 u.n, .slice a2 u.kids.length cap2] 24)) (Own wr.heap.size (wn.alloc (.cells #[.int .i64 u.k, .int .i64 u.i, .int .i64 u.j, .int .i64 u.n, .slice a2 u.kids.length cap2] 24))) u.kids (.slice a2 u.kids.length cap2) := ((hl2.from (by simp)).later ((Below.refl _ _).alloc (Nat.le_refl _) _))
                          have hN : (wn.alloc (.cells #[.int .i64 u.k, .int .i64 u.i, .int .i64 u.j, .int .i64 u.n, .slice a2 u.kids.length cap2] 24)).heap[wn.heap.size]? = some (boxOf u (.slice a2 u.kids.length cap2)) := alloc_new _ _
                          clear hh hbn hl2
                          generalize (wn.alloc (.cells #[.int .i64 u.k, .int .i64 u.i, .int .i64 u.j, .int .i64 u.n, .slice a2 u.kids.length cap2] 24)) = W at hW hLW hN ⊢
                          have hdW := desk_trans hdk (below_from (held_below hW) hsz)
                          have hfW := hfu.later (held_below hW)
                          have hxq : q < xs.length := by rw [HXL.out]; exact hlt
                          have hLF := hfu.fresh hsz hLW
                          obtain ⟨-, -, q2⟩ := desk_blocks hdW
                          obtain ⟨y0, y1, y2, y3, y4⟩ := five_cells q2
                          obtain ⟨p0, p1, p2, p3, p4⟩ := five_cells hN
                          obtain ⟨x0, x1, x2, x3, x4⟩ := hfW.node q hxq
                          obtain ⟨cs, hcs⟩ := hfW.open'
                          have f0 := open_unfrozen hcs (q * 5)
                          have f1 := open_unfrozen hcs (q * 5 + 1)
                          have f2 := open_unfrozen hcs (q * 5 + 2)
                          have f3 := open_unfrozen hcs (q * 5 + 3)
                          have f4 := open_unfrozen hcs (q * 5 + 4)
                          have HFW := Lib.hid hfW
                          have HLF := Lib.hid hLF
                          have HFU := Lib.hid hfu
                          clear hcs hN hLW hW hfW hLF hfu d0 d1 d2 d3 d4 z0 z1 z2 z3 z4
                          go_wp2
                          go_roundw
                          case rel => exact ⟨q + 1, xs.set q (u, .slice a2 u.kids.length cap2), hlt, by go_num, by simp [Hid, HXL.out], by rw [Hid, optK_next hlt HXS.out hr, List.map_set, take_set_next _ _ _ (by simpa using hxq)], HFW.out.fill hxq HFI2.out HLF.out, desk_put hdW (Nat.le_refl _) _ _ _⟩
                          case measure => simp [intOf]; omega
                        · have hW : Held wr t.kids[q] (.slice a' t.kids[q].kids.length cap') (wn.alloc (.cells #[.int .i64 u.k, .int .i64 u.i, .int .i64 u.j, .int .i64 u.n, .slice a2 n2 cap2] 24)) := held_alloc hh _
                          clear hh hbn
                          generalize (wn.alloc (.cells #[.int .i64 u.k, .int .i64 u.i, .int .i64 u.j, .int .i64 u.n, .slice a2 n2 cap2] 24)) = W at hW ⊢
                          have hdW := desk_trans hdk (below_from (held_below hW) hsz)
                          obtain ⟨-, q1, -⟩ := desk_blocks hdW
                          obtain ⟨z0, z1, z2, z3, z4⟩ := five_cells q1
                          obtain ⟨f0, f1, f2, f3, f4⟩ := five_free q1
                          go_wp2
                          (try simp only [Exit.inBlock, Exit.then])
                          refine bodyPost_ret (results_cell_tmp rfl _ _ (w.heap.size + 1) _ _ _ du rfl (five_set q1) hu1 (by cases du <;> first | rfl | exact hu2) size_term) rfl ?_
                          exact GivesN.wide ⟨((((((desk_under hdW).setCell (by simp) _).setCell (by simp) _).setCell (by simp) _).setCell (by simp) _).setCell (by simp) _), Or.inr ⟨Tm.zero, none, 0, 0, by rw [HEQ.out, optK_stop hlt hr]; rfl, rfl⟩⟩ HBP.out
                      exact AllReadyH.nil
                    exact AllReadyH.nil
                  refine AllReadyH.cons (o := { dst := some 13, op := Go.Op.alloc 24, type := 0, pos := "subst.go:89", after := #[], guard := none }) rfl (fun K hK => ?_) ?_
                  · go_simp
                    refine hK.out _ _ ?_ (fun hHeld => ?_)
                    · (try dsimp only)
                      (((with_reducible refine held_and2 ?_ d0 hpc); repeat (first | with_reducible assumption | with_reducible exact hH0 | with_reducible refine held_drew ?_ | with_reducible refine held_alloc ?_ _ | ((with_reducible refine held_set ?_ ?hh _); (case hh => simp)))))
                    clear hK K
                    (try simp only [Act.put, List.setIfInBounds_toArray, List.set_cons_zero, List.set_cons_succ])
                    refine wpAnyH_ready (rs := [18]) (by kernel_rfl) (by simp) ?_
                    refine AllReadyH.cons (o := { dst := some 71, op := Go.Op.call { callee := Go.Callee.value (Go.Operand.func 39), args := #[Go.Operand.tmp 53, Go.Operand.tmp 54, Go.Operand.tmp 60, Go.Operand.tmp 70], argTypes := #[47, 24, 3, 4] }, type := 33, pos := "subst.go:89", after := #[{ on := 0, ground := Go.Ground.data }, { on := 1, ground := Go.Ground.data }, { on := 7, ground := Go.Ground.data }, { on := 17, ground := Go.Ground.data }, { on := 13, ground := Go.Ground.chain }], guard := none }) rfl (fun K hK => ?_) ?_
                    · go_simp
                      ((go_at_call 39; ((with_reducible refine Calls.mono CALLA.out ?_); rintro e wn ⟨⟨u, a2, n2, cap2, ok, rfl, hbn, hans⟩, hZ⟩; obtain ⟨⟨g0, g1, g2, g3, g4⟩, k0, k1, k2, k3, k4⟩ := And.intro (five_cells hZ) (five_free hZ); have HANS := Lib.hid hans; clear hans; have hh := held_call (held_drew (held_alloc hH0 _)) hbn)))
                      refine hK.out _ _ ?_ (fun hHeld => ?_)
                      · (try dsimp only)
                        (((with_reducible refine held_and2 ?_ d0 hpc); repeat (first | with_reducible assumption | with_reducible exact hH0 | with_reducible refine held_drew ?_ | with_reducible refine held_alloc ?_ _ | ((with_reducible refine held_set ?_ ?hh _); (case hh => simp)))))
                      clear hK K
                      (try simp only [Act.put, List.setIfInBounds_toArray, List.set_cons_zero, List.set_cons_succ])
                      refine wpAnyH_take (i := 19) (oi := { dst := some 52, op := Go.Op.move (Go.Operand.tmp 71), type := 33, pos := "subst.go:89", after := #[{ on := 18, ground := Go.Ground.data }], guard := none }) (v := ?_) rfl (by kernel_rfl) (by kernel_rfl) (by kernel_rfl) (fun _ _ _ h => h) (Or.inl ⟨by rfl, ?_⟩) (by assumption) ?_
                      rotate_left 1
                      · ((intro w hSw; (try dsimp only at hSw); go_simp) <;> with_reducible rfl)
                      (try simp only [Act.put, List.setIfInBounds_toArray, List.set_cons_zero, List.set_cons_succ])
                      refine wpAnyH_take (i := 20) (oi := { dst := some 72, op := Go.Op.extract (Go.Operand.tmp 52) 0, type := 24, pos := "subst.go:89", after := #[{ on := 19, ground := Go.Ground.data }], guard := none }) (v := ?_) rfl (by kernel_rfl) (by kernel_rfl) (by kernel_rfl) (fun _ _ _ h => h) (Or.inl ⟨by rfl, ?_⟩) (by assumption) ?_
                      rotate_left 1
                      · ((intro w hSw; (try dsimp only at hSw); go_simp) <;> with_reducible rfl)
                      (try simp only [Act.put, List.setIfInBounds_toArray, List.set_cons_zero, List.set_cons_succ])
                      refine wpAnyH_take (i := 21) (oi := { dst := some 73, op := Go.Op.extract (Go.Operand.tmp 52) 1, type := 4, pos := "subst.go:89", after := #[{ on := 19, ground := Go.Ground.data }, { on := 23, ground := Go.Ground.gcOnly Go.Departure.lateStores }], guard := none }) (v := ?_) rfl (by kernel_rfl) (by kernel_rfl) (by kernel_rfl) (fun _ _ _ h => h) (Or.inl ⟨by rfl, ?_⟩) (by assumption) ?_
                      rotate_left 1
                      · ((intro w hSw; (try dsimp only at hSw); go_simp) <;> with_reducible rfl)
                      (try simp only [Act.put, List.setIfInBounds_toArray, List.set_cons_zero, List.set_cons_succ])
                      refine wpAnyH_ready (rs := [23]) (by kernel_rfl) (by simp) ?_
                      refine AllReadyH.cons (o := { dst := none, op := Go.Op.store 24 (Go.Operand.tmp 13) (Go.Operand.tmp 72), type := 0, pos := "subst.go:89", after := #[{ on := 22, ground := Go.Ground.data }, { on := 20, ground := Go.Ground.data }, { on := 18, ground := Go.Ground.chain }, { on := 0, ground := Go.Ground.phase }, { on := 1, ground := Go.Ground.phase }, { on := 2, ground := Go.Ground.phase }, { on := 3, ground := Go.Ground.phase }, { on := 4, ground := Go.Ground.phase }, { on := 5, ground := Go.Ground.phase }, { on := 6, ground := Go.Ground.phase }, { on := 7, ground := Go.Ground.phase }, { on := 8, ground := Go.Ground.phase }, { on := 9, ground := Go.Ground.phase }, { on := 10, ground := Go.Ground.phase }, { on := 11, ground := Go.Ground.phase }, { on := 12, ground := Go.Ground.phase }, { on := 13, ground := Go.Ground.phase }, { on := 14, ground := Go.Ground.phase }, { on := 15, ground := Go.Ground.phase }, { on := 16, ground := Go.Ground.phase }, { on := 17, ground := Go.Ground.phase }, { on := 18, ground := Go.Ground.phase }, { on := 19, ground := Go.Ground.phase }, { on := 20, ground := Go.Ground.phase }, { on := 21, ground := Go.Ground.textOnly Go.Departure.lateStores }, { on := 22, ground := Go.Ground.phase }], guard := none }) rfl (fun K hK => ?_) ?_
                      · go_simp
                        refine hK.out _ _ ?_ (fun hHeld => ?_)
                        · (try dsimp only)
                          (((with_reducible refine held_and2 ?_ d0 hpc); repeat (first | with_reducible assumption | with_reducible exact hH0 | with_reducible refine held_drew ?_ | with_reducible refine held_alloc ?_ _ | ((with_reducible refine held_set ?_ ?hh _); (case hh => simp)))))
                        clear hK K
                        (try simp only [Act.put, List.setIfInBounds_toArray, List.set_cons_zero, List.set_cons_succ])
                        refine wpAnyH_take (i := 24) (oi := { dst := some 14, op := Go.Op.assign (Go.Operand.tmp 73), type := 4, pos := "subst.go:89", after := #[{ on := 21, ground := Go.Ground.data }, { on := 23, ground := Go.Ground.chain }, { on := 0, ground := Go.Ground.phase }, { on := 1, ground := Go.Ground.phase }, { on := 2, ground := Go.Ground.phase }, { on := 3, ground := Go.Ground.phase }, { on := 4, ground := Go.Ground.phase }, { on := 5, ground := Go.Ground.phase }, { on := 6, ground := Go.Ground.phase }, { on := 7, ground := Go.Ground.phase }, { on := 8, ground := Go.Ground.phase }, { on := 9, ground := Go.Ground.phase }, { on := 10, ground := Go.Ground.phase }, { on := 11, ground := Go.Ground.phase }, { on := 12, ground := Go.Ground.phase }, { on := 13, ground := Go.Ground.phase }, { on := 14, ground := Go.Ground.phase }, { on := 15, ground := Go.Ground.phase }, { on := 16, ground := Go.Ground.phase }, { on := 17, ground := Go.Ground.phase }, { on := 18, ground := Go.Ground.phase }, { on := 19, ground := Go.Ground.phase }, { on := 20, ground := Go.Ground.phase }, { on := 21, ground := Go.Ground.phase }, { on := 22, ground := Go.Ground.phase }, { on := 23, ground := Go.Ground.phase }], guard := none }) (v := ?_) rfl (by kernel_rfl) (by kernel_rfl) (by kernel_rfl) (fun _ _ _ h => h) (Or.inl ⟨by rfl, ?_⟩) (by assumption) ?_
                        rotate_left 1
                        · ((intro w hSw; (try dsimp only at hSw); go_simp) <;> with_reducible rfl)
                        (try simp only [Act.put, List.setIfInBounds_toArray, List.set_cons_zero, List.set_cons_succ])
                        refine wpAnyH_done (by kernel_rfl) ?_ _
                        rcases HANS.out with ⟨rfl, hr, rfl, hl2⟩ | ⟨rfl, hr⟩
                        · have HFI2 := Lib.hid (HFX.out u hr)
                          have hW : Held wr t.kids[q] (.slice a' t.kids[q].kids.length cap') (((((wn.setCell ⟨wr.heap.size + 1, 0, none⟩ (.int .i64 u.k)).setCell ⟨wr.heap.size + 1, 1, none⟩ (.int .i64 u.i)).setCell ⟨wr.heap.size + 1, 2, none⟩ (.int .i64 u.j)).setCell ⟨wr.heap.size + 1, 3, none⟩ (.int .i64 u.n)).setCell ⟨wr.heap.size + 1, 4, none⟩ (.slice a2 u.kids.length cap2)) := held_five hh _ _ _ _ _
                          have hLW : LiesP (((((wn.setCell ⟨wr.heap.size + 1, 0, none⟩ (.int .i64 u.k)).setCell ⟨wr.heap.size + 1, 1, none⟩ (.int .i64 u.i)).setCell ⟨wr.heap.size + 1, 2, none⟩ (.int .i64 u.j)).setCell ⟨wr.heap.size + 1, 3, none⟩ (.int .i64 u.n)).setCell ⟨wr.heap.size + 1, 4, none⟩ (.slice a2 u.kids.length cap2)) (Own wr.heap.size (((((wn.setCell ⟨wr.heap.size + 1, 0, none⟩ (.int .i64 u.k)).setCell ⟨wr.heap.size + 1, 1, none⟩ (.int .i64 u.i)).setCell ⟨wr.heap.size + 1, 2, none⟩ (.int .i64 u.j)).setCell ⟨wr.heap.size + 1, 3, none⟩ (.int .i64 u.n)).setCell ⟨wr.heap.size + 1, 4, none⟩ (.slice a2 u.kids.length cap2))) u.kids (.slice a2 u.kids.length cap2) := liesP_five (hl2.from (B' := wr.heap.size + 2) (by simp)) _ _ _ _ _
                          have hN : (((((wn.setCell ⟨wr.heap.size + 1, 0, none⟩ (.int .i64 u.k)).setCell ⟨wr.heap.size + 1, 1, none⟩ (.int .i64 u.i)).setCell ⟨wr.heap.size + 1, 2, none⟩ (.int .i64 u.j)).setCell ⟨wr.heap.size + 1, 3, none⟩ (.int .i64 u.n)).setCell ⟨wr.heap.size + 1, 4, none⟩ (.slice a2 u.kids.length cap2)).heap[wr.heap.size + 1]? = some (boxOf u (.slice a2 u.kids.length cap2)) := five_set hZ
                          clear hh hbn hl2 hZ g0 g1 g2 g3 g4 k0 k1 k2 k3 k4
                          generalize (((((wn.setCell ⟨wr.heap.size + 1, 0, none⟩ (.int .i64 u.k)).setCell ⟨wr.heap.size + 1, 1, none⟩ (.int .i64 u.i)).setCell ⟨wr.heap.size + 1, 2, none⟩ (.int .i64 u.j)).setCell ⟨wr.heap.size + 1, 3, none⟩ (.int .i64 u.n)).setCell ⟨wr.heap.size + 1, 4, none⟩ (.slice a2 u.kids.length cap2)) = W at hW hLW hN ⊢
                          have hdW := desk_trans hdk (below_from (held_below hW) hsz)
                          have hfW := hfu.later (held_below hW)
                          have hxq : q < xs.length := by rw [HXL.out]; exact hlt
                          have hLF := hfu.fresh hsz hLW
                          obtain ⟨-, -, q2⟩ := desk_blocks hdW
                          obtain ⟨y0, y1, y2, y3, y4⟩ := five_cells q2
                          obtain ⟨p0, p1, p2, p3, p4⟩ := five_cells hN
                          obtain ⟨x0, x1, x2, x3, x4⟩ := hfW.node q hxq
                          obtain ⟨cs, hcs⟩ := hfW.open'
                          have f0 := open_unfrozen hcs (q * 5)
                          have f1 := open_unfrozen hcs (q * 5 + 1)
                          have f2 := open_unfrozen hcs (q * 5 + 2)
                          have f3 := open_unfrozen hcs (q * 5 + 3)
                          have f4 := open_unfrozen hcs (q * 5 + 4)
                          have HFW := Lib.hid hfW
                          have HLF := Lib.hid hLF
                          have HFU := Lib.hid hfu
                          clear hcs hN hLW hW hfW hLF hfu d0 d1 d2 d3 d4 z0 z1 z2 z3 z4
                          go_wp2
                          go_roundw
                          case rel => exact ⟨q + 1, xs.set q (u, .slice a2 u.kids.length cap2), hlt, by go_num, by simp [Hid, HXL.out], by rw [Hid, optK_next hlt HXS.out hr, List.map_set, take_set_next _ _ _ (by simpa using hxq)], HFW.out.fill hxq HFI2.out HLF.out, desk_put hdW (Nat.le_refl _) _ _ _⟩
                          case measure => simp [intOf]; omega
                        · have hW : Held wr t.kids[q] (.slice a' t.kids[q].kids.length cap') (((((wn.setCell ⟨wr.heap.size + 1, 0, none⟩ (.int .i64 u.k)).setCell ⟨wr.heap.size + 1, 1, none⟩ (.int .i64 u.i)).setCell ⟨wr.heap.size + 1, 2, none⟩ (.int .i64 u.j)).setCell ⟨wr.heap.size + 1, 3, none⟩ (.int .i64 u.n)).setCell ⟨wr.heap.size + 1, 4, none⟩ (.slice a2 n2 cap2)) := held_five hh _ _ _ _ _
                          clear hh hbn hZ g0 g1 g2 g3 g4 k0 k1 k2 k3 k4
                          generalize (((((wn.setCell ⟨wr.heap.size + 1, 0, none⟩ (.int .i64 u.k)).setCell ⟨wr.heap.size + 1, 1, none⟩ (.int .i64 u.i)).setCell ⟨wr.heap.size + 1, 2, none⟩ (.int .i64 u.j)).setCell ⟨wr.heap.size + 1, 3, none⟩ (.int .i64 u.n)).setCell ⟨wr.heap.size + 1, 4, none⟩ (.slice a2 n2 cap2)) = W at hW ⊢
                          have hdW := desk_trans hdk (below_from (held_below hW) hsz)
                          obtain ⟨-, q1, -⟩ := desk_blocks hdW
                          obtain ⟨z0, z1, z2, z3, z4⟩ := five_cells q1
                          obtain ⟨f0, f1, f2, f3, f4⟩ := five_free q1
                          go_wp2
                          (try simp only [Exit.inBlock, Exit.then])
                          refine bodyPost_ret (results_cell_tmp rfl _ _ (w.heap.size + 1) _ _ _ du rfl (five_set q1) hu1 (by cases du <;> first | rfl | exact hu2) size_term) rfl ?_
                          exact GivesN.wide ⟨((((((desk_under hdW).setCell (by simp) _).setCell (by simp) _).setCell (by simp) _).setCell (by simp) _).setCell (by simp) _), Or.inr ⟨Tm.zero, none, 0, 0, by rw [HEQ.out, optK_stop hlt hr]; rfl, rfl⟩⟩ HBP.out
                      exact AllReadyH.nil
                    exact AllReadyH.nil
                  exact AllReadyH.nil
                refine AllReadyH.cons (o := { dst := some 13, op := Go.Op.alloc 24, type := 0, pos := "subst.go:89", after := #[], guard := none }) rfl (fun K hK => ?_) ?_
                · go_simp
                  refine hK.out _ _ ?_ (fun hHeld => ?_)
                  · (try dsimp only)
                    (((with_reducible refine held_and2 ?_ d0 hpc); repeat (first | with_reducible assumption | with_reducible exact hH0 | with_reducible refine held_drew ?_ | with_reducible refine held_alloc ?_ _ | ((with_reducible refine held_set ?_ ?hh _); (case hh => simp)))))
                  clear hK K
                  (try simp only [Act.put, List.setIfInBounds_toArray, List.set_cons_zero, List.set_cons_succ])
                  refine wpAnyH_ready (rs := [6]) (by kernel_rfl) (by simp) ?_
                  refine AllReadyH.cons (o := { dst := some 59, op := Go.Op.call { callee := Go.Callee.value (Go.Operand.func 52), args := #[Go.Operand.tmp 57, Go.Operand.tmp 58], argTypes := #[3, 3] }, type := 3, pos := "subst.go:89", after := #[{ on := 4, ground := Go.Ground.data }, { on := 5, ground := Go.Ground.data }], guard := none }) rfl (fun K hK => ?_) ?_
                  · go_simp
                    ((go_at_call 52; refine (binds_any _ _ _).mono ?_; rintro e w' ⟨rfl, rfl⟩))
                    refine hK.out _ _ ?_ (fun hHeld => ?_)
                    · (try dsimp only)
                      (((with_reducible refine held_and2 ?_ d0 hpc); repeat (first | with_reducible assumption | with_reducible exact hH0 | with_reducible refine held_drew ?_ | with_reducible refine held_alloc ?_ _ | ((with_reducible refine held_set ?_ ?hh _); (case hh => simp)))))
                    clear hK K
                    (try simp only [Act.put, List.setIfInBounds_toArray, List.set_cons_zero, List.set_cons_succ])
                    refine wpAnyH_take (i := 7) (oi := { dst := some 60, op := Go.Op.binOp Go.BinOp.add 3 (Go.Operand.tmp 55) (Go.Operand.tmp 59) 3, type := 3, pos := "subst.go:89", after := #[{ on := 2, ground := Go.Ground.data }, { on := 6, ground := Go.Ground.data }], guard := none }) (v := ?_) rfl (by kernel_rfl) (by kernel_rfl) (by kernel_rfl) (fun _ _ _ h => h) (Or.inl ⟨by rfl, ?_⟩) (by assumption) ?_
                    rotate_left 1
                    · ((intro w hSw; (try dsimp only at hSw); go_simp) <;> with_reducible rfl)
                    (try simp only [Act.put, List.setIfInBounds_toArray, List.set_cons_zero, List.set_cons_succ])
                    refine wpAnyH_take (i := 9) (oi := { dst := some 62, op := Go.Op.move (Go.Operand.tmp 61), type := 4, pos := "subst.go:89", after := #[{ on := 8, ground := Go.Ground.data }, { on := 6, ground := Go.Ground.chain }], guard := none }) (v := ?_) rfl (by kernel_rfl) (by kernel_rfl) (by kernel_rfl) (fun _ _ _ h => h) (Or.inl ⟨by rfl, ?_⟩) (by assumption) ?_
                    rotate_left 1
                    · ((intro w hSw; (try dsimp only at hSw); go_simp) <;> with_reducible rfl)
                    (try simp only [Act.put, List.setIfInBounds_toArray, List.set_cons_zero, List.set_cons_succ])
                    refine wpAnyH_take (i := 10) (oi := { dst := some 63, op := Go.Op.fieldAddr 24 (Go.Operand.tmp 5) 0, type := 0, pos := "subst.go:89", after := #[{ on := 9, ground := Go.Ground.guard }], guard := some (9, false) }) (v := ?_) rfl (by kernel_rfl) (by kernel_rfl) (by kernel_rfl) (fun _ _ _ h => h) (Or.inl ⟨by rfl, ?_⟩) (by assumption) ?_
                    rotate_left 1
                    · ((intro w hSw; (try dsimp only at hSw); go_simp) <;> with_reducible rfl)
                    (try simp only [Act.put, List.setIfInBounds_toArray, List.set_cons_zero, List.set_cons_succ])
                    refine wpAnyH_take (i := 11) (oi := { dst := some 64, op := Go.Op.load 3 (Go.Operand.tmp 63), type := 3, pos := "subst.go:89", after := #[{ on := 10, ground := Go.Ground.data }, { on := 9, ground := Go.Ground.guard }], guard := some (9, false) }) (v := ?_) rfl (by kernel_rfl) (by kernel_rfl) (by kernel_rfl) (fun _ _ _ h => h) (Or.inl ⟨by rfl, ?_⟩) (by assumption) ?_
                    rotate_left 1
                    · ((intro w hSw; (try dsimp only at hSw); go_simp) <;> with_reducible rfl)
                    (try simp only [Act.put, List.setIfInBounds_toArray, List.set_cons_zero, List.set_cons_succ])
                    refine wpAnyH_take (i := 12) (oi := { dst := some 65, op := Go.Op.binOp Go.BinOp.eql 3 (Go.Operand.tmp 64) (Go.Operand.const (Go.Value.int Go.IntKind.i64 12)) 3, type := 4, pos := "subst.go:89", after := #[{ on := 11, ground := Go.Ground.data }, { on := 9, ground := Go.Ground.guard }], guard := some (9, false) }) (v := ?_) rfl (by kernel_rfl) (by kernel_rfl) (by kernel_rfl) (fun _ _ _ h => h) (Or.inl ⟨by rfl, ?_⟩) (by assumption) ?_
                    rotate_left 1
                    · ((intro w hSw; (try dsimp only at hSw); go_simp) <;> with_reducible rfl)
                    (try simp only [Act.put, List.setIfInBounds_toArray, List.set_cons_zero, List.set_cons_succ])
                    refine wpAnyH_take (i := 13) (oi := { dst := some 66, op := Go.Op.move (Go.Operand.tmp 65), type := 4, pos := "subst.go:89", after := #[{ on := 12, ground := Go.Ground.data }, { on := 9, ground := Go.Ground.chain }, { on := 9, ground := Go.Ground.guard }], guard := some (9, false) }) (v := ?_) rfl (by kernel_rfl) (by kernel_rfl) (by kernel_rfl) (fun _ _ _ h => h) (Or.inl ⟨by rfl, ?_⟩) (by assumption) ?_
                    rotate_left 1
                    · ((intro w hSw; (try dsimp only at hSw); go_simp) <;> with_reducible rfl)
                    (try simp only [Act.put, List.setIfInBounds_toArray, List.set_cons_zero, List.set_cons_succ])
                    refine wpAnyH_take (i := 14) (oi := { dst := some 67, op := Go.Op.move (Go.Operand.tmp 11), type := 3, pos := "subst.go:89", after := #[{ on := 13, ground := Go.Ground.guard }], guard := some (13, true) }) (v := ?_) rfl (by kernel_rfl) (by kernel_rfl) (by kernel_rfl) (fun _ _ _ h => h) (Or.inl ⟨by rfl, ?_⟩) (by assumption) ?_
                    rotate_left 1
                    · ((intro w hSw; (try dsimp only at hSw); go_simp) <;> with_reducible rfl)
                    (try simp only [Act.put, List.setIfInBounds_toArray, List.set_cons_zero, List.set_cons_succ])
                    refine wpAnyH_take (i := 15) (oi := { dst := some 68, op := Go.Op.binOp Go.BinOp.eql 3 (Go.Operand.tmp 67) (Go.Operand.const (Go.Value.int Go.IntKind.i64 2)) 3, type := 4, pos := "subst.go:89", after := #[{ on := 14, ground := Go.Ground.data }, { on := 13, ground := Go.Ground.guard }], guard := some (13, true) }) (v := ?_) rfl (by kernel_rfl) (by kernel_rfl) (by kernel_rfl) (fun _ _ _ h => h) (Or.inl ⟨by rfl, ?_⟩) (by assumption) ?_
                    rotate_left 1
                    · ((intro w hSw; (try dsimp only at hSw); go_simp) <;> with_reducible rfl)
                    (try simp only [Act.put, List.setIfInBounds_toArray, List.set_cons_zero, List.set_cons_succ])
                    refine wpAnyH_take (i := 16) (oi := { dst := some 69, op := Go.Op.pick (Go.Operand.tmp 66) (Go.Operand.tmp 68) (Go.Operand.const (Go.Value.bool false)), type := 4, pos := "subst.go:89", after := #[{ on := 13, ground := Go.Ground.data }, { on := 15, ground := Go.Ground.data }, { on := 9, ground := Go.Ground.guard }], guard := some (9, false) }) (v := ?_) rfl (by kernel_rfl) (by kernel_rfl) (by kernel_rfl) (fun _ _ _ h => h) (Or.inl ⟨by rfl, ?_⟩) (by assumption) ?_
                    rotate_left 1
                    · ((intro w hSw; (try dsimp only at hSw); go_simp) <;> with_reducible rfl)
                    (try simp only [Act.put, List.setIfInBounds_toArray, List.set_cons_zero, List.set_cons_succ])
                    refine wpAnyH_take (i := 17) (oi := { dst := some 70, op := Go.Op.pick (Go.Operand.tmp 62) (Go.Operand.const (Go.Value.bool true)) (Go.Operand.tmp 69), type := 4, pos := "subst.go:89", after := #[{ on := 9, ground := Go.Ground.data }, { on := 16, ground := Go.Ground.data }], guard := none }) (v := ?_) rfl (by kernel_rfl) (by kernel_rfl) (by kernel_rfl) (fun _ _ _ h => h) (Or.inl ⟨by rfl, ?_⟩) (by assumption) ?_
                    rotate_left 1
                    · ((intro w hSw; (try dsimp only at hSw); go_simp) <;> with_reducible rfl)
                    (try simp only [Act.put, List.setIfInBounds_toArray, List.set_cons_zero, List.set_cons_succ])
                    refine wpAnyH_ready (rs := [18]) (by kernel_rfl) (by simp) ?_
                    refine AllReadyH.cons (o := { dst := some 71, op := Go.Op.call { callee := Go.Callee.value (Go.Operand.func 39), args := #[Go.Operand.tmp 53, Go.Operand.tmp 54, Go.Operand.tmp 60, Go.Operand.tmp 70], argTypes := #[47, 24, 3, 4] }, type := 33, pos := "subst.go:89", after := #[{ on := 0, ground := Go.Ground.data }, { on := 1, ground := Go.Ground.data }, { on := 7, ground := Go.Ground.data }, { on := 17, ground := Go.Ground.data }, { on := 13, ground := Go.Ground.chain }], guard := none }) rfl (fun K hK => ?_) ?_
                    · go_simp
                      ((go_at_call 39; ((with_reducible refine Calls.mono CALLA.out ?_); rintro e wn ⟨⟨u, a2, n2, cap2, ok, rfl, hbn, hans⟩, hZ⟩; obtain ⟨⟨g0, g1, g2, g3, g4⟩, k0, k1, k2, k3, k4⟩ := And.intro (five_cells hZ) (five_free hZ); have HANS := Lib.hid hans; clear hans; have hh := held_call (held_drew (held_alloc hH0 _)) hbn)))
                      refine hK.out _ _ ?_ (fun hHeld => ?_)
                      · (try dsimp only)
                        (((with_reducible refine held_and2 ?_ d0 hpc); repeat (first | with_reducible assumption | with_reducible exact hH0 | with_reducible refine held_drew ?_ | with_reducible refine held_alloc ?_ _ | ((with_reducible refine held_set ?_ ?hh _); (case hh => simp)))))
                      clear hK K
                      (try simp only [Act.put, List.setIfInBounds_toArray, List.set_cons_zero, List.set_cons_succ])
                      refine wpAnyH_take (i := 19) (oi := { dst := some 52, op := Go.Op.move (Go.Operand.tmp 71), type := 33, pos := "subst.go:89", after := #[{ on := 18, ground := Go.Ground.data }], guard := none }) (v := ?_) rfl (by kernel_rfl) (by kernel_rfl) (by kernel_rfl) (fun _ _ _ h => h) (Or.inl ⟨by rfl, ?_⟩) (by assumption) ?_
                      rotate_left 1
                      · ((intro w hSw; (try dsimp only at hSw); go_simp) <;> with_reducible rfl)
                      (try simp only [Act.put, List.setIfInBounds_toArray, List.set_cons_zero, List.set_cons_succ])
                      refine wpAnyH_take (i := 20) (oi := { dst := some 72, op := Go.Op.extract (Go.Operand.tmp 52) 0, type := 24, pos := "subst.go:89", after := #[{ on := 19, ground := Go.Ground.data }], guard := none }) (v := ?_) rfl (by kernel_rfl) (by kernel_rfl) (by kernel_rfl) (fun _ _ _ h => h) (Or.inl ⟨by rfl, ?_⟩) (by assumption) ?_
                      rotate_left 1
                      · ((intro w hSw; (try dsimp only at hSw); go_simp) <;> with_reducible rfl)
                      (try simp only [Act.put, List.setIfInBounds_toArray, List.set_cons_zero, List.set_cons_succ])
                      refine wpAnyH_take (i := 21) (oi := { dst := some 73, op := Go.Op.extract (Go.Operand.tmp 52) 1, type := 4, pos := "subst.go:89", after := #[{ on := 19, ground := Go.Ground.data }, { on := 23, ground := Go.Ground.gcOnly Go.Departure.lateStores }], guard := none }) (v := ?_) rfl (by kernel_rfl) (by kernel_rfl) (by kernel_rfl) (fun _ _ _ h => h) (Or.inl ⟨by rfl, ?_⟩) (by assumption) ?_
                      rotate_left 1
                      · ((intro w hSw; (try dsimp only at hSw); go_simp) <;> with_reducible rfl)
                      (try simp only [Act.put, List.setIfInBounds_toArray, List.set_cons_zero, List.set_cons_succ])
                      refine wpAnyH_ready (rs := [23]) (by kernel_rfl) (by simp) ?_
                      refine AllReadyH.cons (o := { dst := none, op := Go.Op.store 24 (Go.Operand.tmp 13) (Go.Operand.tmp 72), type := 0, pos := "subst.go:89", after := #[{ on := 22, ground := Go.Ground.data }, { on := 20, ground := Go.Ground.data }, { on := 18, ground := Go.Ground.chain }, { on := 0, ground := Go.Ground.phase }, { on := 1, ground := Go.Ground.phase }, { on := 2, ground := Go.Ground.phase }, { on := 3, ground := Go.Ground.phase }, { on := 4, ground := Go.Ground.phase }, { on := 5, ground := Go.Ground.phase }, { on := 6, ground := Go.Ground.phase }, { on := 7, ground := Go.Ground.phase }, { on := 8, ground := Go.Ground.phase }, { on := 9, ground := Go.Ground.phase }, { on := 10, ground := Go.Ground.phase }, { on := 11, ground := Go.Ground.phase }, { on := 12, ground := Go.Ground.phase }, { on := 13, ground := Go.Ground.phase }, { on := 14, ground := Go.Ground.phase }, { on := 15, ground := Go.Ground.phase }, { on := 16, ground := Go.Ground.phase }, { on := 17, ground := Go.Ground.phase }, { on := 18, ground := Go.Ground.phase }, { on := 19, ground := Go.Ground.phase }, { on := 20, ground := Go.Ground.phase }, { on := 21, ground := Go.Ground.textOnly Go.Departure.lateStores }, { on := 22, ground := Go.Ground.phase }], guard := none }) rfl (fun K hK => ?_) ?_
                      · go_simp
                        refine hK.out _ _ ?_ (fun hHeld => ?_)
                        · (try dsimp only)
                          (((with_reducible refine held_and2 ?_ d0 hpc); repeat (first | with_reducible assumption | with_reducible exact hH0 | with_reducible refine held_drew ?_ | with_reducible refine held_alloc ?_ _ | ((with_reducible refine held_set ?_ ?hh _); (case hh => simp)))))
                        clear hK K
                        (try simp only [Act.put, List.setIfInBounds_toArray, List.set_cons_zero, List.set_cons_succ])
                        refine wpAnyH_take (i := 24) (oi := { dst := some 14, op := Go.Op.assign (Go.Operand.tmp 73), type := 4, pos := "subst.go:89", after := #[{ on := 21, ground := Go.Ground.data }, { on := 23, ground := Go.Ground.chain }, { on := 0, ground := Go.Ground.phase }, { on := 1, ground := Go.Ground.phase }, { on := 2, ground := Go.Ground.phase }, { on := 3, ground := Go.Ground.phase }, { on := 4, ground := Go.Ground.phase }, { on := 5, ground := Go.Ground.phase }, { on := 6, ground := Go.Ground.phase }, { on := 7, ground := Go.Ground.phase }, { on := 8, ground := Go.Ground.phase }, { on := 9, ground := Go.Ground.phase }, { on := 10, ground := Go.Ground.phase }, { on := 11, ground := Go.Ground.phase }, { on := 12, ground := Go.Ground.phase }, { on := 13, ground := Go.Ground.phase }, { on := 14, ground := Go.Ground.phase }, { on := 15, ground := Go.Ground.phase }, { on := 16, ground := Go.Ground.phase }, { on := 17, ground := Go.Ground.phase }, { on := 18, ground := Go.Ground.phase }, { on := 19, ground := Go.Ground.phase }, { on := 20, ground := Go.Ground.phase }, { on := 21, ground := Go.Ground.phase }, { on := 22, ground := Go.Ground.phase }, { on := 23, ground := Go.Ground.phase }], guard := none }) (v := ?_) rfl (by kernel_rfl) (by kernel_rfl) (by kernel_rfl) (fun _ _ _ h => h) (Or.inl ⟨by rfl, ?_⟩) (by assumption) ?_
                        rotate_left 1
                        · ((intro w hSw; (try dsimp only at hSw); go_simp) <;> with_reducible rfl)
                        (try simp only [Act.put, List.setIfInBounds_toArray, List.set_cons_zero, List.set_cons_succ])
                        refine wpAnyH_done (by kernel_rfl) ?_ _
                        rcases HANS.out with ⟨rfl, hr, rfl, hl2⟩ | ⟨rfl, hr⟩
                        · have HFI2 := Lib.hid (HFX.out u hr)
                          have hW : Held wr t.kids[q] (.slice a' t.kids[q].kids.length cap') (((((wn.setCell ⟨wr.heap.size + 1, 0, none⟩ (.int .i64 u.k)).setCell ⟨wr.heap.size + 1, 1, none⟩ (.int .i64 u.i)).setCell ⟨wr.heap.size + 1, 2, none⟩ (.int .i64 u.j)).setCell ⟨wr.heap.size + 1, 3, none⟩ (.int .i64 u.n)).setCell ⟨wr.heap.size + 1, 4, none⟩ (.slice a2 u.kids.length cap2)) := held_five hh _ _ _ _ _
                          have hLW : LiesP (((((wn.setCell ⟨wr.heap.size + 1, 0, none⟩ (.int .i64 u.k)).setCell ⟨wr.heap.size + 1, 1, none⟩ (.int .i64 u.i)).setCell ⟨wr.heap.size + 1, 2, none⟩ (.int .i64 u.j)).setCell ⟨wr.heap.size + 1, 3, none⟩ (.int .i64 u.n)).setCell ⟨wr.heap.size + 1, 4, none⟩ (.slice a2 u.kids.length cap2)) (Own wr.heap.size (((((wn.setCell ⟨wr.heap.size + 1, 0, none⟩ (.int .i64 u.k)).setCell ⟨wr.heap.size + 1, 1, none⟩ (.int .i64 u.i)).setCell ⟨wr.heap.size + 1, 2, none⟩ (.int .i64 u.j)).setCell ⟨wr.heap.size + 1, 3, none⟩ (.int .i64 u.n)).setCell ⟨wr.heap.size + 1, 4, none⟩ (.slice a2 u.kids.length cap2))) u.kids (.slice a2 u.kids.length cap2) := liesP_five (hl2.from (B' := wr.heap.size + 2) (by simp)) _ _ _ _ _
                          have hN : (((((wn.setCell ⟨wr.heap.size + 1, 0, none⟩ (.int .i64 u.k)).setCell ⟨wr.heap.size + 1, 1, none⟩ (.int .i64 u.i)).setCell ⟨wr.heap.size + 1, 2, none⟩ (.int .i64 u.j)).setCell ⟨wr.heap.size + 1, 3, none⟩ (.int .i64 u.n)).setCell ⟨wr.heap.size + 1, 4, none⟩ (.slice a2 u.kids.length cap2)).heap[wr.heap.size + 1]? = some (boxOf u (.slice a2 u.kids.length cap2)) := five_set hZ
                          clear hh hbn hl2 hZ g0 g1 g2 g3 g4 k0 k1 k2 k3 k4
                          generalize (((((wn.setCell ⟨wr.heap.size + 1, 0, none⟩ (.int .i64 u.k)).setCell ⟨wr.heap.size + 1, 1, none⟩ (.int .i64 u.i)).setCell ⟨wr.heap.size + 1, 2, none⟩ (.int .i64 u.j)).setCell ⟨wr.heap.size + 1, 3, none⟩ (.int .i64 u.n)).setCell ⟨wr.heap.size + 1, 4, none⟩ (.slice a2 u.kids.length cap2)) = W at hW hLW hN ⊢
                          have hdW := desk_trans hdk (below_from (held_below hW) hsz)
                          have hfW := hfu.later (held_below hW)
                          have hxq : q < xs.length := by rw [HXL.out]; exact hlt
                          have hLF := hfu.fresh hsz hLW
                          obtain ⟨-, -, q2⟩ := desk_blocks hdW
                          obtain ⟨y0, y1, y2, y3, y4⟩ := five_cells q2
                          obtain ⟨p0, p1, p2, p3, p4⟩ := five_cells hN
                          obtain ⟨x0, x1, x2, x3, x4⟩ := hfW.node q hxq
                          obtain ⟨cs, hcs⟩ := hfW.open'
                          have f0 := open_unfrozen hcs (q * 5)
                          have f1 := open_unfrozen hcs (q * 5 + 1)
                          have f2 := open_unfrozen hcs (q * 5 + 2)
                          have f3 := open_unfrozen hcs (q * 5 + 3)
                          have f4 := open_unfrozen hcs (q * 5 + 4)
                          have HFW := Lib.hid hfW
                          have HLF := Lib.hid hLF
                          have HFU := Lib.hid hfu
                          clear hcs hN hLW hW hfW hLF hfu d0 d1 d2 d3 d4 z0 z1 z2 z3 z4
                          go_wp2
                          go_roundw
                          case rel => exact ⟨q + 1, xs.set q (u, .slice a2 u.kids.length cap2), hlt, by go_num, by simp [Hid, HXL.out], by rw [Hid, optK_next hlt HXS.out hr, List.map_set, take_set_next _ _ _ (by simpa using hxq)], HFW.out.fill hxq HFI2.out HLF.out, desk_put hdW (Nat.le_refl _) _ _ _⟩
                          case measure => simp [intOf]; omega
                        · have hW : Held wr t.kids[q] (.slice a' t.kids[q].kids.length cap') (((((wn.setCell ⟨wr.heap.size + 1, 0, none⟩ (.int .i64 u.k)).setCell ⟨wr.heap.size + 1, 1, none⟩ (.int .i64 u.i)).setCell ⟨wr.heap.size + 1, 2, none⟩ (.int .i64 u.j)).setCell ⟨wr.heap.size + 1, 3, none⟩ (.int .i64 u.n)).setCell ⟨wr.heap.size + 1, 4, none⟩ (.slice a2 n2 cap2)) := held_five hh _ _ _ _ _
                          clear hh hbn hZ g0 g1 g2 g3 g4 k0 k1 k2 k3 k4
                          generalize (((((wn.setCell ⟨wr.heap.size + 1, 0, none⟩ (.int .i64 u.k)).setCell ⟨wr.heap.size + 1, 1, none⟩ (.int .i64 u.i)).setCell ⟨wr.heap.size + 1, 2, none⟩ (.int .i64 u.j)).setCell ⟨wr.heap.size + 1, 3, none⟩ (.int .i64 u.n)).setCell ⟨wr.heap.size + 1, 4, none⟩ (.slice a2 n2 cap2)) = W at hW ⊢
                          have hdW := desk_trans hdk (below_from (held_below hW) hsz)
                          obtain ⟨-, q1, -⟩ := desk_blocks hdW
                          obtain ⟨z0, z1, z2, z3, z4⟩ := five_cells q1
                          obtain ⟨f0, f1, f2, f3, f4⟩ := five_free q1
                          go_wp2
                          (try simp only [Exit.inBlock, Exit.then])
                          refine bodyPost_ret (results_cell_tmp rfl _ _ (w.heap.size + 1) _ _ _ du rfl (five_set q1) hu1 (by cases du <;> first | rfl | exact hu2) size_term) rfl ?_
                          exact GivesN.wide ⟨((((((desk_under hdW).setCell (by simp) _).setCell (by simp) _).setCell (by simp) _).setCell (by simp) _).setCell (by simp) _), Or.inr ⟨Tm.zero, none, 0, 0, by rw [HEQ.out, optK_stop hlt hr]; rfl, rfl⟩⟩ HBP.out
                      exact AllReadyH.nil
                    exact AllReadyH.nil
                  exact AllReadyH.nil
                exact AllReadyH.nil
              · have ek12 : (t.k == 12) = false := by simpa using h12
                have hF : (false || (t.k == 12 && q == 2)) = false := by rw [ek12]; rfl
                have hc := HCALL.out
                rw [hF] at hc
                have hH0 := held_start wr t.kids[q] (.slice a' t.kids[q].kids.length cap')
                have CALL2 : ∀ w', Held wr t.kids[q] (.slice a' t.kids[q].kids.length cap') w' → Calls Try.prog 39 #[.agg #[.func (.func fid) #[] #[.pointer (some ⟨bv, 0, none⟩)]], tv t.kids[q] (.slice a' t.kids[q].kids.length cap'), .int .i64 (b + bindsN t.k q), .bool false] w' (GivesY (t.kids[q].putG g (b + bindsN t.k q) (false || (t.k == 12 && q == 2))) w') := fun w' h' => (hc w' h').mono fun e w'' h => by rw [← hF] at h; exact h.ans
                have CALLB := Lib.hid (CALL2 (wr.alloc (.cells #[.int .i64 t.kids[q].k, .int .i64 t.kids[q].i, .int .i64 t.kids[q].j, .int .i64 t.kids[q].n, .slice a' t.kids[q].kids.length cap'] 24)).drew (held_drew hH0))
                have CALLA := Lib.hid ((CALL2 ((wr.alloc (.cells #[.int .i64 t.kids[q].k, .int .i64 t.kids[q].i, .int .i64 t.kids[q].j, .int .i64 t.kids[q].n, .slice a' t.kids[q].kids.length cap'] 24)).alloc zeroObj).drew (held_drew (held_alloc hH0 _))).mono fun e w'' h => And.intro h (zero_blocks_new h.below))
                clear hc HCALL CALL2 hF h12
                go_wp2_with fail
                refine wp_region_held_drew (S := fun w' => Held wr t.kids[q] (.slice a' t.kids[q].kids.length cap') w' ∧ w'.cell? ⟨w.heap.size, 0, none⟩ = some (.int .i64 t.k) ∧ w'.cell? ⟨wi.heap.size, 0, none⟩ = some (.func (.func fid) #[] #[.pointer (some ⟨bv, 0, none⟩)]) ∧ w'.cell? ⟨wr.heap.size, 0, none⟩ = some (.int .i64 t.kids[q].k) ∧ w'.cell? ⟨wr.heap.size, 1, none⟩ = some (.int .i64 t.kids[q].i) ∧ w'.cell? ⟨wr.heap.size, 2, none⟩ = some (.int .i64 t.kids[q].j) ∧ w'.cell? ⟨wr.heap.size, 3, none⟩ = some (.int .i64 t.kids[q].n) ∧ w'.cell? ⟨wr.heap.size, 4, none⟩ = some (.slice a' t.kids[q].kids.length cap')) (by kernel_rfl) ?_ (fun hHeld => ?_)
                · (try dsimp only)
                  (((with_reducible refine held_and2 ?_ d0 hpc); repeat (first | with_reducible assumption | with_reducible exact hH0 | with_reducible refine held_drew ?_ | with_reducible refine held_alloc ?_ _ | ((with_reducible refine held_set ?_ ?hh _); (case hh => simp)))))
                refine wpAnyH_take (i := 0) (oi := { dst := some 53, op := Go.Op.load 47 (Go.Operand.tmp 4), type := 47, pos := "subst.go:89", after := #[], guard := none }) (v := ?_) rfl (by kernel_rfl) (by kernel_rfl) (by kernel_rfl) (fun _ _ _ h => h) (Or.inl ⟨by rfl, ?_⟩) (by assumption) ?_
                rotate_left 1
                · ((intro w hSw; (try dsimp only at hSw); go_simp) <;> with_reducible rfl)
                (try simp only [Act.put, List.setIfInBounds_toArray, List.set_cons_zero, List.set_cons_succ])
                refine wpAnyH_take (i := 1) (oi := { dst := some 54, op := Go.Op.load 24 (Go.Operand.tmp 12), type := 24, pos := "subst.go:89", after := #[], guard := none }) (v := ?_) rfl (by kernel_rfl) (by kernel_rfl) (by kernel_rfl) (fun _ _ _ h => h) (Or.inl ⟨by rfl, ?_⟩) (by assumption) ?_
                rotate_left 1
                · ((intro w hSw; (try dsimp only at hSw); go_simp) <;> with_reducible rfl)
                (try simp only [Act.put, List.setIfInBounds_toArray, List.set_cons_zero, List.set_cons_succ])
                refine wpAnyH_take (i := 2) (oi := { dst := some 55, op := Go.Op.move (Go.Operand.tmp 2), type := 3, pos := "subst.go:89", after := #[], guard := none }) (v := ?_) rfl (by kernel_rfl) (by kernel_rfl) (by kernel_rfl) (fun _ _ _ h => h) (Or.inl ⟨by rfl, ?_⟩) (by assumption) ?_
                rotate_left 1
                · ((intro w hSw; (try dsimp only at hSw); go_simp) <;> with_reducible rfl)
                (try simp only [Act.put, List.setIfInBounds_toArray, List.set_cons_zero, List.set_cons_succ])
                refine wpAnyH_take (i := 3) (oi := { dst := some 56, op := Go.Op.fieldAddr 24 (Go.Operand.tmp 5) 0, type := 0, pos := "subst.go:89", after := #[], guard := none }) (v := ?_) rfl (by kernel_rfl) (by kernel_rfl) (by kernel_rfl) (fun _ _ _ h => h) (Or.inl ⟨by rfl, ?_⟩) (by assumption) ?_
                rotate_left 1
                · ((intro w hSw; (try dsimp only at hSw); go_simp) <;> with_reducible rfl)
                (try simp only [Act.put, List.setIfInBounds_toArray, List.set_cons_zero, List.set_cons_succ])
                refine wpAnyH_take (i := 4) (oi := { dst := some 57, op := Go.Op.load 3 (Go.Operand.tmp 56), type := 3, pos := "subst.go:89", after := #[{ on := 3, ground := Go.Ground.data }], guard := none }) (v := ?_) rfl (by kernel_rfl) (by kernel_rfl) (by kernel_rfl) (fun _ _ _ h => h) (Or.inl ⟨by rfl, ?_⟩) (by assumption) ?_
                rotate_left 1
                · ((intro w hSw; (try dsimp only at hSw); go_simp) <;> with_reducible rfl)
                (try simp only [Act.put, List.setIfInBounds_toArray, List.set_cons_zero, List.set_cons_succ])
                refine wpAnyH_take (i := 5) (oi := { dst := some 58, op := Go.Op.move (Go.Operand.tmp 11), type := 3, pos := "subst.go:89", after := #[], guard := none }) (v := ?_) rfl (by kernel_rfl) (by kernel_rfl) (by kernel_rfl) (fun _ _ _ h => h) (Or.inl ⟨by rfl, ?_⟩) (by assumption) ?_
                rotate_left 1
                · ((intro w hSw; (try dsimp only at hSw); go_simp) <;> with_reducible rfl)
                (try simp only [Act.put, List.setIfInBounds_toArray, List.set_cons_zero, List.set_cons_succ])
                refine wpAnyH_take (i := 8) (oi := { dst := some 61, op := Go.Op.move (Go.Operand.tmp 3), type := 4, pos := "subst.go:89", after := #[], guard := none }) (v := ?_) rfl (by kernel_rfl) (by kernel_rfl) (by kernel_rfl) (fun _ _ _ h => h) (Or.inl ⟨by rfl, ?_⟩) (by assumption) ?_
                rotate_left 1
                · ((intro w hSw; (try dsimp only at hSw); go_simp) <;> with_reducible rfl)
                (try simp only [Act.put, List.setIfInBounds_toArray, List.set_cons_zero, List.set_cons_succ])
                refine wpAnyH_ready (rs := [6, 22]) (by kernel_rfl) (by simp) ?_
                refine AllReadyH.cons (o := { dst := some 59, op := Go.Op.call { callee := Go.Callee.value (Go.Operand.func 52), args := #[Go.Operand.tmp 57, Go.Operand.tmp 58], argTypes := #[3, 3] }, type := 3, pos := "subst.go:89", after := #[{ on := 4, ground := Go.Ground.data }, { on := 5, ground := Go.Ground.data }], guard := none }) rfl (fun K hK => ?_) ?_
                · go_simp
                  ((go_at_call 52; refine (binds_any _ _ _).mono ?_; rintro e w' ⟨rfl, rfl⟩))
                  refine hK.out _ _ ?_ (fun hHeld => ?_)
                  · (try dsimp only)
                    (((with_reducible refine held_and2 ?_ d0 hpc); repeat (first | with_reducible assumption | with_reducible exact hH0 | with_reducible refine held_drew ?_ | with_reducible refine held_alloc ?_ _ | ((with_reducible refine held_set ?_ ?hh _); (case hh => simp)))))
                  clear hK K
                  (try simp only [Act.put, List.setIfInBounds_toArray, List.set_cons_zero, List.set_cons_succ])
                  refine wpAnyH_take (i := 7) (oi := { dst := some 60, op := Go.Op.binOp Go.BinOp.add 3 (Go.Operand.tmp 55) (Go.Operand.tmp 59) 3, type := 3, pos := "subst.go:89", after := #[{ on := 2, ground := Go.Ground.data }, { on := 6, ground := Go.Ground.data }], guard := none }) (v := ?_) rfl (by kernel_rfl) (by kernel_rfl) (by kernel_rfl) (fun _ _ _ h => h) (Or.inl ⟨by rfl, ?_⟩) (by assumption) ?_
                  rotate_left 1
                  · ((intro w hSw; (try dsimp only at hSw); go_simp) <;> with_reducible rfl)
                  (try simp only [Act.put, List.setIfInBounds_toArray, List.set_cons_zero, List.set_cons_succ])
                  refine wpAnyH_take (i := 9) (oi := { dst := some 62, op := Go.Op.move (Go.Operand.tmp 61), type := 4, pos := "subst.go:89", after := #[{ on := 8, ground := Go.Ground.data }, { on := 6, ground := Go.Ground.chain }], guard := none }) (v := ?_) rfl (by kernel_rfl) (by kernel_rfl) (by kernel_rfl) (fun _ _ _ h => h) (Or.inl ⟨by rfl, ?_⟩) (by assumption) ?_
                  rotate_left 1
                  · ((intro w hSw; (try dsimp only at hSw); go_simp) <;> with_reducible rfl)
                  (try simp only [Act.put, List.setIfInBounds_toArray, List.set_cons_zero, List.set_cons_succ])
                  refine wpAnyH_take (i := 10) (oi := { dst := some 63, op := Go.Op.fieldAddr 24 (Go.Operand.tmp 5) 0, type := 0, pos := "subst.go:89", after := #[{ on := 9, ground := Go.Ground.guard }], guard := some (9, false) }) (v := ?_) rfl (by kernel_rfl) (by kernel_rfl) (by kernel_rfl) (fun _ _ _ h => h) (Or.inl ⟨by rfl, ?_⟩) (by assumption) ?_
                  rotate_left 1
                  · ((intro w hSw; (try dsimp only at hSw); go_simp) <;> with_reducible rfl)
                  (try simp only [Act.put, List.setIfInBounds_toArray, List.set_cons_zero, List.set_cons_succ])
                  refine wpAnyH_take (i := 11) (oi := { dst := some 64, op := Go.Op.load 3 (Go.Operand.tmp 63), type := 3, pos := "subst.go:89", after := #[{ on := 10, ground := Go.Ground.data }, { on := 9, ground := Go.Ground.guard }], guard := some (9, false) }) (v := ?_) rfl (by kernel_rfl) (by kernel_rfl) (by kernel_rfl) (fun _ _ _ h => h) (Or.inl ⟨by rfl, ?_⟩) (by assumption) ?_
                  rotate_left 1
                  · ((intro w hSw; (try dsimp only at hSw); go_simp) <;> with_reducible rfl)
                  (try simp only [Act.put, List.setIfInBounds_toArray, List.set_cons_zero, List.set_cons_succ])
                  refine wpAnyH_take (i := 12) (oi := { dst := some 65, op := Go.Op.binOp Go.BinOp.eql 3 (Go.Operand.tmp 64) (Go.Operand.const (Go.Value.int Go.IntKind.i64 12)) 3, type := 4, pos := "subst.go:89", after := #[{ on := 11, ground := Go.Ground.data }, { on := 9, ground := Go.Ground.guard }], guard := some (9, false) }) (v := ?_) rfl (by kernel_rfl) (by kernel_rfl) (by kernel_rfl) (fun _ _ _ h => h) (Or.inl ⟨by rfl, ?_⟩) (by assumption) ?_
                  rotate_left 1
                  · ((intro w hSw; (try dsimp only at hSw); go_simp) <;> with_reducible rfl)
                  (try simp only [Act.put, List.setIfInBounds_toArray, List.set_cons_zero, List.set_cons_succ])
                  refine wpAnyH_take (i := 13) (oi := { dst := some 66, op := Go.Op.move (Go.Operand.tmp 65), type := 4, pos := "subst.go:89", after := #[{ on := 12, ground := Go.Ground.data }, { on := 9, ground := Go.Ground.chain }, { on := 9, ground := Go.Ground.guard }], guard := some (9, false) }) (v := ?_) rfl (by kernel_rfl) (by kernel_rfl) (by kernel_rfl) (fun _ _ _ h => h) (Or.inl ⟨by rfl, ?_⟩) (by assumption) ?_
                  rotate_left 1
                  · ((intro w hSw; (try dsimp only at hSw); go_simp) <;> with_reducible rfl)
                  (try simp only [Act.put, List.setIfInBounds_toArray, List.set_cons_zero, List.set_cons_succ])
                  refine wpAnyH_take (i := 14) (oi := { dst := some 67, op := Go.Op.move (Go.Operand.tmp 11), type := 3, pos := "subst.go:89", after := #[{ on := 13, ground := Go.Ground.guard }], guard := some (13, true) }) (v := undef) rfl (by kernel_rfl) (by kernel_rfl) (by kernel_rfl) (fun _ _ _ h => h) (Or.inr ⟨by rfl, rfl⟩) (by assumption) ?_
                  (try simp only [Act.put, List.setIfInBounds_toArray, List.set_cons_zero, List.set_cons_succ])
                  refine wpAnyH_take (i := 15) (oi := { dst := some 68, op := Go.Op.binOp Go.BinOp.eql 3 (Go.Operand.tmp 67) (Go.Operand.const (Go.Value.int Go.IntKind.i64 2)) 3, type := 4, pos := "subst.go:89", after := #[{ on := 14, ground := Go.Ground.data }, { on := 13, ground := Go.Ground.guard }], guard := some (13, true) }) (v := undef) rfl (by kernel_rfl) (by kernel_rfl) (by kernel_rfl) (fun _ _ _ h => h) (Or.inr ⟨by rfl, rfl⟩) (by assumption) ?_
                  (try simp only [Act.put, List.setIfInBounds_toArray, List.set_cons_zero, List.set_cons_succ])
                  refine wpAnyH_take (i := 16) (oi := { dst := some 69, op := Go.Op.pick (Go.Operand.tmp 66) (Go.Operand.tmp 68) (Go.Operand.const (Go.Value.bool false)), type := 4, pos := "subst.go:89", after := #[{ on := 13, ground := Go.Ground.data }, { on := 15, ground := Go.Ground.data }, { on := 9, ground := Go.Ground.guard }], guard := some (9, false) }) (v := ?_) rfl (by kernel_rfl) (by kernel_rfl) (by kernel_rfl) (fun _ _ _ h => h) (Or.inl ⟨by rfl, ?_⟩) (by assumption) ?_
                  rotate_left 1
                  · ((intro w hSw; (try dsimp only at hSw); go_simp) <;> with_reducible rfl)
                  (try simp only [Act.put, List.setIfInBounds_toArray, List.set_cons_zero, List.set_cons_succ])
                  refine wpAnyH_take (i := 17) (oi := { dst := some 70, op := Go.Op.pick (Go.Operand.tmp 62) (Go.Operand.const (Go.Value.bool true)) (Go.Operand.tmp 69), type := 4, pos := "subst.go:89", after := #[{ on := 9, ground := Go.Ground.data }, { on := 16, ground := Go.Ground.data }], guard := none }) (v := ?_) rfl (by kernel_rfl) (by kernel_rfl) (by kernel_rfl) (fun _ _ _ h => h) (Or.inl ⟨by rfl, ?_⟩) (by assumption) ?_
                  rotate_left 1
                  · ((intro w hSw; (try dsimp only at hSw); go_simp) <;> with_reducible rfl)
                  (try simp only [Act.put, List.setIfInBounds_toArray, List.set_cons_zero, List.set_cons_succ])
                  refine wpAnyH_ready (rs := [18, 22]) (by kernel_rfl) (by simp) ?_
                  refine AllReadyH.cons (o := { dst := some 71, op := Go.Op.call { callee := Go.Callee.value (Go.Operand.func 39), args := #[Go.Operand.tmp 53, Go.Operand.tmp 54, Go.Operand.tmp 60, Go.Operand.tmp 70], argTypes := #[47, 24, 3, 4] }, type := 33, pos := "subst.go:89", after := #[{ on := 0, ground := Go.Ground.data }, { on := 1, ground := Go.Ground.data }, { on := 7, ground := Go.Ground.data }, { on := 17, ground := Go.Ground.data }, { on := 13, ground := Go.Ground.chain }], guard := none }) rfl (fun K hK => ?_) ?_
                  · go_simp
                    ((go_at_call 39; ((with_reducible refine Calls.mono CALLB.out ?_); rintro e wn ⟨u, a2, n2, cap2, ok, rfl, hbn, hans⟩; have HANS := Lib.hid hans; clear hans; have hh := held_call (held_drew hH0) hbn)))
                    refine hK.out _ _ ?_ (fun hHeld => ?_)
                    · (try dsimp only)
                      (((with_reducible refine held_and2 ?_ d0 hpc); repeat (first | with_reducible assumption | with_reducible exact hH0 | with_reducible refine held_drew ?_ | with_reducible refine held_alloc ?_ _ | ((with_reducible refine held_set ?_ ?hh _); (case hh => simp)))))
                    clear hK K
                    (try simp only [Act.put, List.setIfInBounds_toArray, List.set_cons_zero, List.set_cons_succ])
                    refine wpAnyH_take (i := 19) (oi := { dst := some 52, op := Go.Op.move (Go.Operand.tmp 71), type := 33, pos := "subst.go:89", after := #[{ on := 18, ground := Go.Ground.data }], guard := none }) (v := ?_) rfl (by kernel_rfl) (by kernel_rfl) (by kernel_rfl) (fun _ _ _ h => h) (Or.inl ⟨by rfl, ?_⟩) (by assumption) ?_
                    rotate_left 1
                    · ((intro w hSw; (try dsimp only at hSw); go_simp) <;> with_reducible rfl)
                    (try simp only [Act.put, List.setIfInBounds_toArray, List.set_cons_zero, List.set_cons_succ])
                    refine wpAnyH_take (i := 20) (oi := { dst := some 72, op := Go.Op.extract (Go.Operand.tmp 52) 0, type := 24, pos := "subst.go:89", after := #[{ on := 19, ground := Go.Ground.data }], guard := none }) (v := ?_) rfl (by kernel_rfl) (by kernel_rfl) (by kernel_rfl) (fun _ _ _ h => h) (Or.inl ⟨by rfl, ?_⟩) (by assumption) ?_
                    rotate_left 1
                    · ((intro w hSw; (try dsimp only at hSw); go_simp) <;> with_reducible rfl)
                    (try simp only [Act.put, List.setIfInBounds_toArray, List.set_cons_zero, List.set_cons_succ])
                    refine wpAnyH_take (i := 21) (oi := { dst := some 73, op := Go.Op.extract (Go.Operand.tmp 52) 1, type := 4, pos := "subst.go:89", after := #[{ on := 19, ground := Go.Ground.data }, { on := 23, ground := Go.Ground.gcOnly Go.Departure.lateStores }], guard := none }) (v := ?_) rfl (by kernel_rfl) (by kernel_rfl) (by kernel_rfl) (fun _ _ _ h => h) (Or.inl ⟨by rfl, ?_⟩) (by assumption) ?_
                    rotate_left 1
                    · ((intro w hSw; (try dsimp only at hSw); go_simp) <;> with_reducible rfl)
                    (try simp only [Act.put, List.setIfInBounds_toArray, List.set_cons_zero, List.set_cons_succ])
                    refine wpAnyH_ready (rs := [22]) (by kernel_rfl) (by simp) ?_
                    refine AllReadyH.cons (o := { dst := some 13, op := Go.Op.alloc 24, type := 0, pos := "subst.go:89", after := #[], guard := none }) rfl (fun K hK => ?_) ?_
                    · go_simp
                      refine hK.out _ _ ?_ (fun hHeld => ?_)
                      · (try dsimp only)
                        (((with_reducible refine held_and2 ?_ d0 hpc); repeat (first | with_reducible assumption | with_reducible exact hH0 | with_reducible refine held_drew ?_ | with_reducible refine held_alloc ?_ _ | ((with_reducible refine held_set ?_ ?hh _); (case hh => simp)))))
                      clear hK K
                      (try simp only [Act.put, List.setIfInBounds_toArray, List.set_cons_zero, List.set_cons_succ])
                      refine wpAnyH_ready (rs := [23]) (by kernel_rfl) (by simp) ?_
                      refine AllReadyH.cons (o := { dst := none, op := Go.Op.store 24 (Go.Operand.tmp 13) (Go.Operand.tmp 72), type := 0, pos := "subst.go:89", after := #[{ on := 22, ground := Go.Ground.data }, { on := 20, ground := Go.Ground.data }, { on := 18, ground := Go.Ground.chain }, { on := 0, ground := Go.Ground.phase }, { on := 1, ground := Go.Ground.phase }, { on := 2, ground := Go.Ground.phase }, { on := 3, ground := Go.Ground.phase }, { on := 4, ground := Go.Ground.phase }, { on := 5, ground := Go.Ground.phase }, { on := 6, ground := Go.Ground.phase }, { on := 7, ground := Go.Ground.phase }, { on := 8, ground := Go.Ground.phase }, { on := 9, ground := Go.Ground.phase }, { on := 10, ground := Go.Ground.phase }, { on := 11, ground := Go.Ground.phase }, { on := 12, ground := Go.Ground.phase }, { on := 13, ground := Go.Ground.phase }, { on := 14, ground := Go.Ground.phase }, { on := 15, ground := Go.Ground.phase }, { on := 16, ground := Go.Ground.phase }, { on := 17, ground := Go.Ground.phase }, { on := 18, ground := Go.Ground.phase }, { on := 19, ground := Go.Ground.phase }, { on := 20, ground := Go.Ground.phase }, { on := 21, ground := Go.Ground.textOnly Go.Departure.lateStores }, { on := 22, ground := Go.Ground.phase }], guard := none }) rfl (fun K hK => ?_) ?_
                      · go_simp
                        refine hK.out _ _ ?_ (fun hHeld => ?_)
                        · (try dsimp only)
                          (((with_reducible refine held_and2 ?_ d0 hpc); repeat (first | with_reducible assumption | with_reducible exact hH0 | with_reducible refine held_drew ?_ | with_reducible refine held_alloc ?_ _ | ((with_reducible refine held_set ?_ ?hh _); (case hh => simp)))))
                        clear hK K
                        (try simp only [Act.put, List.setIfInBounds_toArray, List.set_cons_zero, List.set_cons_succ])
                        refine wpAnyH_take (i := 24) (oi := { dst := some 14, op := Go.Op.assign (Go.Operand.tmp 73), type := 4, pos := "subst.go:89", after := #[{ on := 21, ground := Go.Ground.data }, { on := 23, ground := Go.Ground.chain }, { on := 0, ground := Go.Ground.phase }, { on := 1, ground := Go.Ground.phase }, { on := 2, ground := Go.Ground.phase }, { on := 3, ground := Go.Ground.phase }, { on := 4, ground := Go.Ground.phase }, { on := 5, ground := Go.Ground.phase }, { on := 6, ground := Go.Ground.phase }, { on := 7, ground := Go.Ground.phase }, { on := 8, ground := Go.Ground.phase }, { on := 9, ground := Go.Ground.phase }, { on := 10, ground := Go.Ground.phase }, { on := 11, ground := Go.Ground.phase }, { on := 12, ground := Go.Ground.phase }, { on := 13, ground := Go.Ground.phase }, { on := 14, ground := Go.Ground.phase }, { on := 15, ground := Go.Ground.phase }, { on := 16, ground := Go.Ground.phase }, { on := 17, ground := Go.Ground.phase }, { on := 18, ground := Go.Ground.phase }, { on := 19, ground := Go.Ground.phase }, { on := 20, ground := Go.Ground.phase }, { on := 21, ground := Go.Ground.phase }, { on := 22, ground := Go.Ground.phase }, { on := 23, ground := Go.Ground.phase }], guard := none }) (v := ?_) rfl (by kernel_rfl) (by kernel_rfl) (by kernel_rfl) (fun _ _ _ h => h) (Or.inl ⟨by rfl, ?_⟩) (by assumption) ?_
                        rotate_left 1
                        · ((intro w hSw; (try dsimp only at hSw); go_simp) <;> with_reducible rfl)
                        (try simp only [Act.put, List.setIfInBounds_toArray, List.set_cons_zero, List.set_cons_succ])
                        refine wpAnyH_done (by kernel_rfl) ?_ _
                        rcases HANS.out with ⟨rfl, hr, rfl, hl2⟩ | ⟨rfl, hr⟩
                        · have HFI2 := Lib.hid (HFX.out u hr)
                          have hW : Held wr t.kids[q] (.slice a' t.kids[q].kids.length cap') (wn.alloc (.cells #[.int .i64 u.k, .int .i64 u.i, .int .i64 u.j, .int .i64 u.n, .slice a2 u.kids.length cap2] 24)) := held_alloc hh _
                          have hLW : LiesP (wn.alloc (.cells #[.int .i64 u.k, .int .i64 u.i, .int .i64 u.j, .int .i64 u.n, .slice a2 u.kids.length cap2] 24)) (Own wr.heap.size (wn.alloc (.cells #[.int .i64 u.k, .int .i64 u.i, .int .i64 u.j, .int .i64 u.n, .slice a2 u.kids.length cap2] 24))) u.kids (.slice a2 u.kids.length cap2) := ((hl2.from (by simp)).later ((Below.refl _ _).alloc (Nat.le_refl _) _))
                          have hN : (wn.alloc (.cells #[.int .i64 u.k, .int .i64 u.i, .int .i64 u.j, .int .i64 u.n, .slice a2 u.kids.length cap2] 24)).heap[wn.heap.size]? = some (boxOf u (.slice a2 u.kids.length cap2)) := alloc_new _ _
                          clear hh hbn hl2
                          generalize (wn.alloc (.cells #[.int .i64 u.k, .int .i64 u.i, .int .i64 u.j, .int .i64 u.n, .slice a2 u.kids.length cap2] 24)) = W at hW hLW hN ⊢
                          have hdW := desk_trans hdk (below_from (held_below hW) hsz)
                          have hfW := hfu.later (held_below hW)
                          have hxq : q < xs.length := by rw [HXL.out]; exact hlt
                          have hLF := hfu.fresh hsz hLW
                          obtain ⟨-, -, q2⟩ := desk_blocks hdW
                          obtain ⟨y0, y1, y2, y3, y4⟩ := five_cells q2
                          obtain ⟨p0, p1, p2, p3, p4⟩ := five_cells hN
                          obtain ⟨x0, x1, x2, x3, x4⟩ := hfW.node q hxq
                          obtain ⟨cs, hcs⟩ := hfW.open'
                          have f0 := open_unfrozen hcs (q * 5)
                          have f1 := open_unfrozen hcs (q * 5 + 1)
                          have f2 := open_unfrozen hcs (q * 5 + 2)
                          have f3 := open_unfrozen hcs (q * 5 + 3)
                          have f4 := open_unfrozen hcs (q * 5 + 4)
                          have HFW := Lib.hid hfW
                          have HLF := Lib.hid hLF
                          have HFU := Lib.hid hfu
                          clear hcs hN hLW hW hfW hLF hfu d0 d1 d2 d3 d4 z0 z1 z2 z3 z4
                          go_wp2
                          go_roundw
                          case rel => exact ⟨q + 1, xs.set q (u, .slice a2 u.kids.length cap2), hlt, by go_num, by simp [Hid, HXL.out], by rw [Hid, optK_next hlt HXS.out hr, List.map_set, take_set_next _ _ _ (by simpa using hxq)], HFW.out.fill hxq HFI2.out HLF.out, desk_put hdW (Nat.le_refl _) _ _ _⟩
                          case measure => simp [intOf]; omega
                        · have hW : Held wr t.kids[q] (.slice a' t.kids[q].kids.length cap') (wn.alloc (.cells #[.int .i64 u.k, .int .i64 u.i, .int .i64 u.j, .int .i64 u.n, .slice a2 n2 cap2] 24)) := held_alloc hh _
                          clear hh hbn
                          generalize (wn.alloc (.cells #[.int .i64 u.k, .int .i64 u.i, .int .i64 u.j, .int .i64 u.n, .slice a2 n2 cap2] 24)) = W at hW ⊢
                          have hdW := desk_trans hdk (below_from (held_below hW) hsz)
                          obtain ⟨-, q1, -⟩ := desk_blocks hdW
                          obtain ⟨z0, z1, z2, z3, z4⟩ := five_cells q1
                          obtain ⟨f0, f1, f2, f3, f4⟩ := five_free q1
                          go_wp2
                          (try simp only [Exit.inBlock, Exit.then])
                          refine bodyPost_ret (results_cell_tmp rfl _ _ (w.heap.size + 1) _ _ _ du rfl (five_set q1) hu1 (by cases du <;> first | rfl | exact hu2) size_term) rfl ?_
                          exact GivesN.wide ⟨((((((desk_under hdW).setCell (by simp) _).setCell (by simp) _).setCell (by simp) _).setCell (by simp) _).setCell (by simp) _), Or.inr ⟨Tm.zero, none, 0, 0, by rw [HEQ.out, optK_stop hlt hr]; rfl, rfl⟩⟩ HBP.out
                      exact AllReadyH.nil
                    exact AllReadyH.nil
                  refine AllReadyH.cons (o := { dst := some 13, op := Go.Op.alloc 24, type := 0, pos := "subst.go:89", after := #[], guard := none }) rfl (fun K hK => ?_) ?_
                  · go_simp
                    refine hK.out _ _ ?_ (fun hHeld => ?_)
                    · (try dsimp only)
                      (((with_reducible refine held_and2 ?_ d0 hpc); repeat (first | with_reducible assumption | with_reducible exact hH0 | with_reducible refine held_drew ?_ | with_reducible refine held_alloc ?_ _ | ((with_reducible refine held_set ?_ ?hh _); (case hh => simp)))))
                    clear hK K
                    (try simp only [Act.put, List.setIfInBounds_toArray, List.set_cons_zero, List.set_cons_succ])
                    refine wpAnyH_ready (rs := [18]) (by kernel_rfl) (by simp) ?_
                    refine AllReadyH.cons (o := { dst := some 71, op := Go.Op.call { callee := Go.Callee.value (Go.Operand.func 39), args := #[Go.Operand.tmp 53, Go.Operand.tmp 54, Go.Operand.tmp 60, Go.Operand.tmp 70], argTypes := #[47, 24, 3, 4] }, type := 33, pos := "subst.go:89", after := #[{ on := 0, ground := Go.Ground.data }, { on := 1, ground := Go.Ground.data }, { on := 7, ground := Go.Ground.data }, { on := 17, ground := Go.Ground.data }, { on := 13, ground := Go.Ground.chain }], guard := none }) rfl (fun K hK => ?_) ?_
                    · go_simp
                      ((go_at_call 39; ((with_reducible refine Calls.mono CALLA.out ?_); rintro e wn ⟨⟨u, a2, n2, cap2, ok, rfl, hbn, hans⟩, hZ⟩; obtain ⟨⟨g0, g1, g2, g3, g4⟩, k0, k1, k2, k3, k4⟩ := And.intro (five_cells hZ) (five_free hZ); have HANS := Lib.hid hans; clear hans; have hh := held_call (held_drew (held_alloc hH0 _)) hbn)))
                      refine hK.out _ _ ?_ (fun hHeld => ?_)
                      · (try dsimp only)
                        (((with_reducible refine held_and2 ?_ d0 hpc); repeat (first | with_reducible assumption | with_reducible exact hH0 | with_reducible refine held_drew ?_ | with_reducible refine held_alloc ?_ _ | ((with_reducible refine held_set ?_ ?hh _); (case hh => simp)))))
                      clear hK K
                      (try simp only [Act.put, List.setIfInBounds_toArray, List.set_cons_zero, List.set_cons_succ])
                      refine wpAnyH_take (i := 19) (oi := { dst := some 52, op := Go.Op.move (Go.Operand.tmp 71), type := 33, pos := "subst.go:89", after := #[{ on := 18, ground := Go.Ground.data }], guard := none }) (v := ?_) rfl (by kernel_rfl) (by kernel_rfl) (by kernel_rfl) (fun _ _ _ h => h) (Or.inl ⟨by rfl, ?_⟩) (by assumption) ?_
                      rotate_left 1
                      · ((intro w hSw; (try dsimp only at hSw); go_simp) <;> with_reducible rfl)
                      (try simp only [Act.put, List.setIfInBounds_toArray, List.set_cons_zero, List.set_cons_succ])
                      refine wpAnyH_take (i := 20) (oi := { dst := some 72, op := Go.Op.extract (Go.Operand.tmp 52) 0, type := 24, pos := "subst.go:89", after := #[{ on := 19, ground := Go.Ground.data }], guard := none }) (v := ?_) rfl (by kernel_rfl) (by kernel_rfl) (by kernel_rfl) (fun _ _ _ h => h) (Or.inl ⟨by rfl, ?_⟩) (by assumption) ?_
                      rotate_left 1
                      · ((intro w hSw; (try dsimp only at hSw); go_simp) <;> with_reducible rfl)
                      (try simp only [Act.put, List.setIfInBounds_toArray, List.set_cons_zero, List.set_cons_succ])
                      refine wpAnyH_take (i := 21) (oi := { dst := some 73, op := Go.Op.extract (Go.Operand.tmp 52) 1, type := 4, pos := "subst.go:89", after := #[{ on := 19, ground := Go.Ground.data }, { on := 23, ground := Go.Ground.gcOnly Go.Departure.lateStores }], guard := none }) (v := ?_) rfl (by kernel_rfl) (by kernel_rfl) (by kernel_rfl) (fun _ _ _ h => h) (Or.inl ⟨by rfl, ?_⟩) (by assumption) ?_
                      rotate_left 1
                      · ((intro w hSw; (try dsimp only at hSw); go_simp) <;> with_reducible rfl)
                      (try simp only [Act.put, List.setIfInBounds_toArray, List.set_cons_zero, List.set_cons_succ])
                      refine wpAnyH_ready (rs := [23]) (by kernel_rfl) (by simp) ?_
                      refine AllReadyH.cons (o := { dst := none, op := Go.Op.store 24 (Go.Operand.tmp 13) (Go.Operand.tmp 72), type := 0, pos := "subst.go:89", after := #[{ on := 22, ground := Go.Ground.data }, { on := 20, ground := Go.Ground.data }, { on := 18, ground := Go.Ground.chain }, { on := 0, ground := Go.Ground.phase }, { on := 1, ground := Go.Ground.phase }, { on := 2, ground := Go.Ground.phase }, { on := 3, ground := Go.Ground.phase }, { on := 4, ground := Go.Ground.phase }, { on := 5, ground := Go.Ground.phase }, { on := 6, ground := Go.Ground.phase }, { on := 7, ground := Go.Ground.phase }, { on := 8, ground := Go.Ground.phase }, { on := 9, ground := Go.Ground.phase }, { on := 10, ground := Go.Ground.phase }, { on := 11, ground := Go.Ground.phase }, { on := 12, ground := Go.Ground.phase }, { on := 13, ground := Go.Ground.phase }, { on := 14, ground := Go.Ground.phase }, { on := 15, ground := Go.Ground.phase }, { on := 16, ground := Go.Ground.phase }, { on := 17, ground := Go.Ground.phase }, { on := 18, ground := Go.Ground.phase }, { on := 19, ground := Go.Ground.phase }, { on := 20, ground := Go.Ground.phase }, { on := 21, ground := Go.Ground.textOnly Go.Departure.lateStores }, { on := 22, ground := Go.Ground.phase }], guard := none }) rfl (fun K hK => ?_) ?_
                      · go_simp
                        refine hK.out _ _ ?_ (fun hHeld => ?_)
                        · (try dsimp only)
                          (((with_reducible refine held_and2 ?_ d0 hpc); repeat (first | with_reducible assumption | with_reducible exact hH0 | with_reducible refine held_drew ?_ | with_reducible refine held_alloc ?_ _ | ((with_reducible refine held_set ?_ ?hh _); (case hh => simp)))))
                        clear hK K
                        (try simp only [Act.put, List.setIfInBounds_toArray, List.set_cons_zero, List.set_cons_succ])
                        refine wpAnyH_take (i := 24) (oi := { dst := some 14, op := Go.Op.assign (Go.Operand.tmp 73), type := 4, pos := "subst.go:89", after := #[{ on := 21, ground := Go.Ground.data }, { on := 23, ground := Go.Ground.chain }, { on := 0, ground := Go.Ground.phase }, { on := 1, ground := Go.Ground.phase }, { on := 2, ground := Go.Ground.phase }, { on := 3, ground := Go.Ground.phase }, { on := 4, ground := Go.Ground.phase }, { on := 5, ground := Go.Ground.phase }, { on := 6, ground := Go.Ground.phase }, { on := 7, ground := Go.Ground.phase }, { on := 8, ground := Go.Ground.phase }, { on := 9, ground := Go.Ground.phase }, { on := 10, ground := Go.Ground.phase }, { on := 11, ground := Go.Ground.phase }, { on := 12, ground := Go.Ground.phase }, { on := 13, ground := Go.Ground.phase }, { on := 14, ground := Go.Ground.phase }, { on := 15, ground := Go.Ground.phase }, { on := 16, ground := Go.Ground.phase }, { on := 17, ground := Go.Ground.phase }, { on := 18, ground := Go.Ground.phase }, { on := 19, ground := Go.Ground.phase }, { on := 20, ground := Go.Ground.phase }, { on := 21, ground := Go.Ground.phase }, { on := 22, ground := Go.Ground.phase }, { on := 23, ground := Go.Ground.phase }], guard := none }) (v := ?_) rfl (by kernel_rfl) (by kernel_rfl) (by kernel_rfl) (fun _ _ _ h => h) (Or.inl ⟨by rfl, ?_⟩) (by assumption) ?_
                        rotate_left 1
                        · ((intro w hSw; (try dsimp only at hSw); go_simp) <;> with_reducible rfl)
                        (try simp only [Act.put, List.setIfInBounds_toArray, List.set_cons_zero, List.set_cons_succ])
                        refine wpAnyH_done (by kernel_rfl) ?_ _
                        rcases HANS.out with ⟨rfl, hr, rfl, hl2⟩ | ⟨rfl, hr⟩
                        · have HFI2 := Lib.hid (HFX.out u hr)
                          have hW : Held wr t.kids[q] (.slice a' t.kids[q].kids.length cap') (((((wn.setCell ⟨wr.heap.size + 1, 0, none⟩ (.int .i64 u.k)).setCell ⟨wr.heap.size + 1, 1, none⟩ (.int .i64 u.i)).setCell ⟨wr.heap.size + 1, 2, none⟩ (.int .i64 u.j)).setCell ⟨wr.heap.size + 1, 3, none⟩ (.int .i64 u.n)).setCell ⟨wr.heap.size + 1, 4, none⟩ (.slice a2 u.kids.length cap2)) := held_five hh _ _ _ _ _
                          have hLW : LiesP (((((wn.setCell ⟨wr.heap.size + 1, 0, none⟩ (.int .i64 u.k)).setCell ⟨wr.heap.size + 1, 1, none⟩ (.int .i64 u.i)).setCell ⟨wr.heap.size + 1, 2, none⟩ (.int .i64 u.j)).setCell ⟨wr.heap.size + 1, 3, none⟩ (.int .i64 u.n)).setCell ⟨wr.heap.size + 1, 4, none⟩ (.slice a2 u.kids.length cap2)) (Own wr.heap.size (((((wn.setCell ⟨wr.heap.size + 1, 0, none⟩ (.int .i64 u.k)).setCell ⟨wr.heap.size + 1, 1, none⟩ (.int .i64 u.i)).setCell ⟨wr.heap.size + 1, 2, none⟩ (.int .i64 u.j)).setCell ⟨wr.heap.size + 1, 3, none⟩ (.int .i64 u.n)).setCell ⟨wr.heap.size + 1, 4, none⟩ (.slice a2 u.kids.length cap2))) u.kids (.slice a2 u.kids.length cap2) := liesP_five (hl2.from (B' := wr.heap.size + 2) (by simp)) _ _ _ _ _
                          have hN : (((((wn.setCell ⟨wr.heap.size + 1, 0, none⟩ (.int .i64 u.k)).setCell ⟨wr.heap.size + 1, 1, none⟩ (.int .i64 u.i)).setCell ⟨wr.heap.size + 1, 2, none⟩ (.int .i64 u.j)).setCell ⟨wr.heap.size + 1, 3, none⟩ (.int .i64 u.n)).setCell ⟨wr.heap.size + 1, 4, none⟩ (.slice a2 u.kids.length cap2)).heap[wr.heap.size + 1]? = some (boxOf u (.slice a2 u.kids.length cap2)) := five_set hZ
                          clear hh hbn hl2 hZ g0 g1 g2 g3 g4 k0 k1 k2 k3 k4
                          generalize (((((wn.setCell ⟨wr.heap.size + 1, 0, none⟩ (.int .i64 u.k)).setCell ⟨wr.heap.size + 1, 1, none⟩ (.int .i64 u.i)).setCell ⟨wr.heap.size + 1, 2, none⟩ (.int .i64 u.j)).setCell ⟨wr.heap.size + 1, 3, none⟩ (.int .i64 u.n)).setCell ⟨wr.heap.size + 1, 4, none⟩ (.slice a2 u.kids.length cap2)) = W at hW hLW hN ⊢
                          have hdW := desk_trans hdk (below_from (held_below hW) hsz)
                          have hfW := hfu.later (held_below hW)
                          have hxq : q < xs.length := by rw [HXL.out]; exact hlt
                          have hLF := hfu.fresh hsz hLW
                          obtain ⟨-, -, q2⟩ := desk_blocks hdW
                          obtain ⟨y0, y1, y2, y3, y4⟩ := five_cells q2
                          obtain ⟨p0, p1, p2, p3, p4⟩ := five_cells hN
                          obtain ⟨x0, x1, x2, x3, x4⟩ := hfW.node q hxq
                          obtain ⟨cs, hcs⟩ := hfW.open'
                          have f0 := open_unfrozen hcs (q * 5)
                          have f1 := open_unfrozen hcs (q * 5 + 1)
                          have f2 := open_unfrozen hcs (q * 5 + 2)
                          have f3 := open_unfrozen hcs (q * 5 + 3)
                          have f4 := open_unfrozen hcs (q * 5 + 4)
                          have HFW := Lib.hid hfW
                          have HLF := Lib.hid hLF
                          have HFU := Lib.hid hfu
                          clear hcs hN hLW hW hfW hLF hfu d0 d1 d2 d3 d4 z0 z1 z2 z3 z4
                          go_wp2
                          go_roundw
                          case rel => exact ⟨q + 1, xs.set q (u, .slice a2 u.kids.length cap2), hlt, by go_num, by simp [Hid, HXL.out], by rw [Hid, optK_next hlt HXS.out hr, List.map_set, take_set_next _ _ _ (by simpa using hxq)], HFW.out.fill hxq HFI2.out HLF.out, desk_put hdW (Nat.le_refl _) _ _ _⟩
                          case measure => simp [intOf]; omega
                        · have hW : Held wr t.kids[q] (.slice a' t.kids[q].kids.length cap') (((((wn.setCell ⟨wr.heap.size + 1, 0, none⟩ (.int .i64 u.k)).setCell ⟨wr.heap.size + 1, 1, none⟩ (.int .i64 u.i)).setCell ⟨wr.heap.size + 1, 2, none⟩ (.int .i64 u.j)).setCell ⟨wr.heap.size + 1, 3, none⟩ (.int .i64 u.n)).setCell ⟨wr.heap.size + 1, 4, none⟩ (.slice a2 n2 cap2)) := held_five hh _ _ _ _ _
                          clear hh hbn hZ g0 g1 g2 g3 g4 k0 k1 k2 k3 k4
                          generalize (((((wn.setCell ⟨wr.heap.size + 1, 0, none⟩ (.int .i64 u.k)).setCell ⟨wr.heap.size + 1, 1, none⟩ (.int .i64 u.i)).setCell ⟨wr.heap.size + 1, 2, none⟩ (.int .i64 u.j)).setCell ⟨wr.heap.size + 1, 3, none⟩ (.int .i64 u.n)).setCell ⟨wr.heap.size + 1, 4, none⟩ (.slice a2 n2 cap2)) = W at hW ⊢
                          have hdW := desk_trans hdk (below_from (held_below hW) hsz)
                          obtain ⟨-, q1, -⟩ := desk_blocks hdW
                          obtain ⟨z0, z1, z2, z3, z4⟩ := five_cells q1
                          obtain ⟨f0, f1, f2, f3, f4⟩ := five_free q1
                          go_wp2
                          (try simp only [Exit.inBlock, Exit.then])
                          refine bodyPost_ret (results_cell_tmp rfl _ _ (w.heap.size + 1) _ _ _ du rfl (five_set q1) hu1 (by cases du <;> first | rfl | exact hu2) size_term) rfl ?_
                          exact GivesN.wide ⟨((((((desk_under hdW).setCell (by simp) _).setCell (by simp) _).setCell (by simp) _).setCell (by simp) _).setCell (by simp) _), Or.inr ⟨Tm.zero, none, 0, 0, by rw [HEQ.out, optK_stop hlt hr]; rfl, rfl⟩⟩ HBP.out
                      exact AllReadyH.nil
                    exact AllReadyH.nil
                  exact AllReadyH.nil
                refine AllReadyH.cons (o := { dst := some 13, op := Go.Op.alloc 24, type := 0, pos := "subst.go:89", after := #[], guard := none }) rfl (fun K hK => ?_) ?_
                · go_simp
                  refine hK.out _ _ ?_ (fun hHeld => ?_)
                  · (try dsimp only)
                    (((with_reducible refine held_and2 ?_ d0 hpc); repeat (first | with_reducible assumption | with_reducible exact hH0 | with_reducible refine held_drew ?_ | with_reducible refine held_alloc ?_ _ | ((with_reducible refine held_set ?_ ?hh _); (case hh => simp)))))
                  clear hK K
                  (try simp only [Act.put, List.setIfInBounds_toArray, List.set_cons_zero, List.set_cons_succ])
                  refine wpAnyH_ready (rs := [6]) (by kernel_rfl) (by simp) ?_
                  refine AllReadyH.cons (o := { dst := some 59, op := Go.Op.call { callee := Go.Callee.value (Go.Operand.func 52), args := #[Go.Operand.tmp 57, Go.Operand.tmp 58], argTypes := #[3, 3] }, type := 3, pos := "subst.go:89", after := #[{ on := 4, ground := Go.Ground.data }, { on := 5, ground := Go.Ground.data }], guard := none }) rfl (fun K hK => ?_) ?_
                  · go_simp
                    ((go_at_call 52; refine (binds_any _ _ _).mono ?_; rintro e w' ⟨rfl, rfl⟩))
                    refine hK.out _ _ ?_ (fun hHeld => ?_)
                    · (try dsimp only)
                      (((with_reducible refine held_and2 ?_ d0 hpc); repeat (first | with_reducible assumption | with_reducible exact hH0 | with_reducible refine held_drew ?_ | with_reducible refine held_alloc ?_ _ | ((with_reducible refine held_set ?_ ?hh _); (case hh => simp)))))
                    clear hK K
                    (try simp only [Act.put, List.setIfInBounds_toArray, List.set_cons_zero, List.set_cons_succ])
                    refine wpAnyH_take (i := 7) (oi := { dst := some 60, op := Go.Op.binOp Go.BinOp.add 3 (Go.Operand.tmp 55) (Go.Operand.tmp 59) 3, type := 3, pos := "subst.go:89", after := #[{ on := 2, ground := Go.Ground.data }, { on := 6, ground := Go.Ground.data }], guard := none }) (v := ?_) rfl (by kernel_rfl) (by kernel_rfl) (by kernel_rfl) (fun _ _ _ h => h) (Or.inl ⟨by rfl, ?_⟩) (by assumption) ?_
                    rotate_left 1
                    · ((intro w hSw; (try dsimp only at hSw); go_simp) <;> with_reducible rfl)
                    (try simp only [Act.put, List.setIfInBounds_toArray, List.set_cons_zero, List.set_cons_succ])
                    refine wpAnyH_take (i := 9) (oi := { dst := some 62, op := Go.Op.move (Go.Operand.tmp 61), type := 4, pos := "subst.go:89", after := #[{ on := 8, ground := Go.Ground.data }, { on := 6, ground := Go.Ground.chain }], guard := none }) (v := ?_) rfl (by kernel_rfl) (by kernel_rfl) (by kernel_rfl) (fun _ _ _ h => h) (Or.inl ⟨by rfl, ?_⟩) (by assumption) ?_
                    rotate_left 1
                    · ((intro w hSw; (try dsimp only at hSw); go_simp) <;> with_reducible rfl)
                    (try simp only [Act.put, List.setIfInBounds_toArray, List.set_cons_zero, List.set_cons_succ])
                    refine wpAnyH_take (i := 10) (oi := { dst := some 63, op := Go.Op.fieldAddr 24 (Go.Operand.tmp 5) 0, type := 0, pos := "subst.go:89", after := #[{ on := 9, ground := Go.Ground.guard }], guard := some (9, false) }) (v := ?_) rfl (by kernel_rfl) (by kernel_rfl) (by kernel_rfl) (fun _ _ _ h => h) (Or.inl ⟨by rfl, ?_⟩) (by assumption) ?_
                    rotate_left 1
                    · ((intro w hSw; (try dsimp only at hSw); go_simp) <;> with_reducible rfl)
                    (try simp only [Act.put, List.setIfInBounds_toArray, List.set_cons_zero, List.set_cons_succ])
                    refine wpAnyH_take (i := 11) (oi := { dst := some 64, op := Go.Op.load 3 (Go.Operand.tmp 63), type := 3, pos := "subst.go:89", after := #[{ on := 10, ground := Go.Ground.data }, { on := 9, ground := Go.Ground.guard }], guard := some (9, false) }) (v := ?_) rfl (by kernel_rfl) (by kernel_rfl) (by kernel_rfl) (fun _ _ _ h => h) (Or.inl ⟨by rfl, ?_⟩) (by assumption) ?_
                    rotate_left 1
                    · ((intro w hSw; (try dsimp only at hSw); go_simp) <;> with_reducible rfl)
                    (try simp only [Act.put, List.setIfInBounds_toArray, List.set_cons_zero, List.set_cons_succ])
                    refine wpAnyH_take (i := 12) (oi := { dst := some 65, op := Go.Op.binOp Go.BinOp.eql 3 (Go.Operand.tmp 64) (Go.Operand.const (Go.Value.int Go.IntKind.i64 12)) 3, type := 4, pos := "subst.go:89", after := #[{ on := 11, ground := Go.Ground.data }, { on := 9, ground := Go.Ground.guard }], guard := some (9, false) }) (v := ?_) rfl (by kernel_rfl) (by kernel_rfl) (by kernel_rfl) (fun _ _ _ h => h) (Or.inl ⟨by rfl, ?_⟩) (by assumption) ?_
                    rotate_left 1
                    · ((intro w hSw; (try dsimp only at hSw); go_simp) <;> with_reducible rfl)
                    (try simp only [Act.put, List.setIfInBounds_toArray, List.set_cons_zero, List.set_cons_succ])
                    refine wpAnyH_take (i := 13) (oi := { dst := some 66, op := Go.Op.move (Go.Operand.tmp 65), type := 4, pos := "subst.go:89", after := #[{ on := 12, ground := Go.Ground.data }, { on := 9, ground := Go.Ground.chain }, { on := 9, ground := Go.Ground.guard }], guard := some (9, false) }) (v := ?_) rfl (by kernel_rfl) (by kernel_rfl) (by kernel_rfl) (fun _ _ _ h => h) (Or.inl ⟨by rfl, ?_⟩) (by assumption) ?_
                    rotate_left 1
                    · ((intro w hSw; (try dsimp only at hSw); go_simp) <;> with_reducible rfl)
                    (try simp only [Act.put, List.setIfInBounds_toArray, List.set_cons_zero, List.set_cons_succ])
                    refine wpAnyH_take (i := 14) (oi := { dst := some 67, op := Go.Op.move (Go.Operand.tmp 11), type := 3, pos := "subst.go:89", after := #[{ on := 13, ground := Go.Ground.guard }], guard := some (13, true) }) (v := undef) rfl (by kernel_rfl) (by kernel_rfl) (by kernel_rfl) (fun _ _ _ h => h) (Or.inr ⟨by rfl, rfl⟩) (by assumption) ?_
                    (try simp only [Act.put, List.setIfInBounds_toArray, List.set_cons_zero, List.set_cons_succ])
                    refine wpAnyH_take (i := 15) (oi := { dst := some 68, op := Go.Op.binOp Go.BinOp.eql 3 (Go.Operand.tmp 67) (Go.Operand.const (Go.Value.int Go.IntKind.i64 2)) 3, type := 4, pos := "subst.go:89", after := #[{ on := 14, ground := Go.Ground.data }, { on := 13, ground := Go.Ground.guard }], guard := some (13, true) }) (v := undef) rfl (by kernel_rfl) (by kernel_rfl) (by kernel_rfl) (fun _ _ _ h => h) (Or.inr ⟨by rfl, rfl⟩) (by assumption) ?_
                    (try simp only [Act.put, List.setIfInBounds_toArray, List.set_cons_zero, List.set_cons_succ])
                    refine wpAnyH_take (i := 16) (oi := { dst := some 69, op := Go.Op.pick (Go.Operand.tmp 66) (Go.Operand.tmp 68) (Go.Operand.const (Go.Value.bool false)), type := 4, pos := "subst.go:89", after := #[{ on := 13, ground := Go.Ground.data }, { on := 15, ground := Go.Ground.data }, { on := 9, ground := Go.Ground.guard }], guard := some (9, false) }) (v := ?_) rfl (by kernel_rfl) (by kernel_rfl) (by kernel_rfl) (fun _ _ _ h => h) (Or.inl ⟨by rfl, ?_⟩) (by assumption) ?_
                    rotate_left 1
                    · ((intro w hSw; (try dsimp only at hSw); go_simp) <;> with_reducible rfl)
                    (try simp only [Act.put, List.setIfInBounds_toArray, List.set_cons_zero, List.set_cons_succ])
                    refine wpAnyH_take (i := 17) (oi := { dst := some 70, op := Go.Op.pick (Go.Operand.tmp 62) (Go.Operand.const (Go.Value.bool true)) (Go.Operand.tmp 69), type := 4, pos := "subst.go:89", after := #[{ on := 9, ground := Go.Ground.data }, { on := 16, ground := Go.Ground.data }], guard := none }) (v := ?_) rfl (by kernel_rfl) (by kernel_rfl) (by kernel_rfl) (fun _ _ _ h => h) (Or.inl ⟨by rfl, ?_⟩) (by assumption) ?_
                    rotate_left 1
                    · ((intro w hSw; (try dsimp only at hSw); go_simp) <;> with_reducible rfl)
                    (try simp only [Act.put, List.setIfInBounds_toArray, List.set_cons_zero, List.set_cons_succ])
                    refine wpAnyH_ready (rs := [18]) (by kernel_rfl) (by simp) ?_
                    refine AllReadyH.cons (o := { dst := some 71, op := Go.Op.call { callee := Go.Callee.value (Go.Operand.func 39), args := #[Go.Operand.tmp 53, Go.Operand.tmp 54, Go.Operand.tmp 60, Go.Operand.tmp 70], argTypes := #[47, 24, 3, 4] }, type := 33, pos := "subst.go:89", after := #[{ on := 0, ground := Go.Ground.data }, { on := 1, ground := Go.Ground.data }, { on := 7, ground := Go.Ground.data }, { on := 17, ground := Go.Ground.data }, { on := 13, ground := Go.Ground.chain }], guard := none }) rfl (fun K hK => ?_) ?_
                    · go_simp
                      ((go_at_call 39; ((with_reducible refine Calls.mono CALLA.out ?_); rintro e wn ⟨⟨u, a2, n2, cap2, ok, rfl, hbn, hans⟩, hZ⟩; obtain ⟨⟨g0, g1, g2, g3, g4⟩, k0, k1, k2, k3, k4⟩ := And.intro (five_cells hZ) (five_free hZ); have HANS := Lib.hid hans; clear hans; have hh := held_call (held_drew (held_alloc hH0 _)) hbn)))
                      refine hK.out _ _ ?_ (fun hHeld => ?_)
                      · (try dsimp only)
                        (((with_reducible refine held_and2 ?_ d0 hpc); repeat (first | with_reducible assumption | with_reducible exact hH0 | with_reducible refine held_drew ?_ | with_reducible refine held_alloc ?_ _ | ((with_reducible refine held_set ?_ ?hh _); (case hh => simp)))))
                      clear hK K
                      (try simp only [Act.put, List.setIfInBounds_toArray, List.set_cons_zero, List.set_cons_succ])
                      refine wpAnyH_take (i := 19) (oi := { dst := some 52, op := Go.Op.move (Go.Operand.tmp 71), type := 33, pos := "subst.go:89", after := #[{ on := 18, ground := Go.Ground.data }], guard := none }) (v := ?_) rfl (by kernel_rfl) (by kernel_rfl) (by kernel_rfl) (fun _ _ _ h => h) (Or.inl ⟨by rfl, ?_⟩) (by assumption) ?_
                      rotate_left 1
                      · ((intro w hSw; (try dsimp only at hSw); go_simp) <;> with_reducible rfl)
                      (try simp only [Act.put, List.setIfInBounds_toArray, List.set_cons_zero, List.set_cons_succ])
                      refine wpAnyH_take (i := 20) (oi := { dst := some 72, op := Go.Op.extract (Go.Operand.tmp 52) 0, type := 24, pos := "subst.go:89", after := #[{ on := 19, ground := Go.Ground.data }], guard := none }) (v := ?_) rfl (by kernel_rfl) (by kernel_rfl) (by kernel_rfl) (fun _ _ _ h => h) (Or.inl ⟨by rfl, ?_⟩) (by assumption) ?_
                      rotate_left 1
                      · ((intro w hSw; (try dsimp only at hSw); go_simp) <;> with_reducible rfl)
                      (try simp only [Act.put, List.setIfInBounds_toArray, List.set_cons_zero, List.set_cons_succ])
                      refine wpAnyH_take (i := 21) (oi := { dst := some 73, op := Go.Op.extract (Go.Operand.tmp 52) 1, type := 4, pos := "subst.go:89", after := #[{ on := 19, ground := Go.Ground.data }, { on := 23, ground := Go.Ground.gcOnly Go.Departure.lateStores }], guard := none }) (v := ?_) rfl (by kernel_rfl) (by kernel_rfl) (by kernel_rfl) (fun _ _ _ h => h) (Or.inl ⟨by rfl, ?_⟩) (by assumption) ?_
                      rotate_left 1
                      · ((intro w hSw; (try dsimp only at hSw); go_simp) <;> with_reducible rfl)
                      (try simp only [Act.put, List.setIfInBounds_toArray, List.set_cons_zero, List.set_cons_succ])
                      refine wpAnyH_ready (rs := [23]) (by kernel_rfl) (by simp) ?_
                      refine AllReadyH.cons (o := { dst := none, op := Go.Op.store 24 (Go.Operand.tmp 13) (Go.Operand.tmp 72), type := 0, pos := "subst.go:89", after := #[{ on := 22, ground := Go.Ground.data }, { on := 20, ground := Go.Ground.data }, { on := 18, ground := Go.Ground.chain }, { on := 0, ground := Go.Ground.phase }, { on := 1, ground := Go.Ground.phase }, { on := 2, ground := Go.Ground.phase }, { on := 3, ground := Go.Ground.phase }, { on := 4, ground := Go.Ground.phase }, { on := 5, ground := Go.Ground.phase }, { on := 6, ground := Go.Ground.phase }, { on := 7, ground := Go.Ground.phase }, { on := 8, ground := Go.Ground.phase }, { on := 9, ground := Go.Ground.phase }, { on := 10, ground := Go.Ground.phase }, { on := 11, ground := Go.Ground.phase }, { on := 12, ground := Go.Ground.phase }, { on := 13, ground := Go.Ground.phase }, { on := 14, ground := Go.Ground.phase }, { on := 15, ground := Go.Ground.phase }, { on := 16, ground := Go.Ground.phase }, { on := 17, ground := Go.Ground.phase }, { on := 18, ground := Go.Ground.phase }, { on := 19, ground := Go.Ground.phase }, { on := 20, ground := Go.Ground.phase }, { on := 21, ground := Go.Ground.textOnly Go.Departure.lateStores }, { on := 22, ground := Go.Ground.phase }], guard := none }) rfl (fun K hK => ?_) ?_
                      · go_simp
                        refine hK.out _ _ ?_ (fun hHeld => ?_)
                        · (try dsimp only)
                          (((with_reducible refine held_and2 ?_ d0 hpc); repeat (first | with_reducible assumption | with_reducible exact hH0 | with_reducible refine held_drew ?_ | with_reducible refine held_alloc ?_ _ | ((with_reducible refine held_set ?_ ?hh _); (case hh => simp)))))
                        clear hK K
                        (try simp only [Act.put, List.setIfInBounds_toArray, List.set_cons_zero, List.set_cons_succ])
                        refine wpAnyH_take (i := 24) (oi := { dst := some 14, op := Go.Op.assign (Go.Operand.tmp 73), type := 4, pos := "subst.go:89", after := #[{ on := 21, ground := Go.Ground.data }, { on := 23, ground := Go.Ground.chain }, { on := 0, ground := Go.Ground.phase }, { on := 1, ground := Go.Ground.phase }, { on := 2, ground := Go.Ground.phase }, { on := 3, ground := Go.Ground.phase }, { on := 4, ground := Go.Ground.phase }, { on := 5, ground := Go.Ground.phase }, { on := 6, ground := Go.Ground.phase }, { on := 7, ground := Go.Ground.phase }, { on := 8, ground := Go.Ground.phase }, { on := 9, ground := Go.Ground.phase }, { on := 10, ground := Go.Ground.phase }, { on := 11, ground := Go.Ground.phase }, { on := 12, ground := Go.Ground.phase }, { on := 13, ground := Go.Ground.phase }, { on := 14, ground := Go.Ground.phase }, { on := 15, ground := Go.Ground.phase }, { on := 16, ground := Go.Ground.phase }, { on := 17, ground := Go.Ground.phase }, { on := 18, ground := Go.Ground.phase }, { on := 19, ground := Go.Ground.phase }, { on := 20, ground := Go.Ground.phase }, { on := 21, ground := Go.Ground.phase }, { on := 22, ground := Go.Ground.phase }, { on := 23, ground := Go.Ground.phase }], guard := none }) (v := ?_) rfl (by kernel_rfl) (by kernel_rfl) (by kernel_rfl) (fun _ _ _ h => h) (Or.inl ⟨by rfl, ?_⟩) (by assumption) ?_
                        rotate_left 1
                        · ((intro w hSw; (try dsimp only at hSw); go_simp) <;> with_reducible rfl)
                        (try simp only [Act.put, List.setIfInBounds_toArray, List.set_cons_zero, List.set_cons_succ])
                        refine wpAnyH_done (by kernel_rfl) ?_ _
                        rcases HANS.out with ⟨rfl, hr, rfl, hl2⟩ | ⟨rfl, hr⟩
                        · have HFI2 := Lib.hid (HFX.out u hr)
                          have hW : Held wr t.kids[q] (.slice a' t.kids[q].kids.length cap') (((((wn.setCell ⟨wr.heap.size + 1, 0, none⟩ (.int .i64 u.k)).setCell ⟨wr.heap.size + 1, 1, none⟩ (.int .i64 u.i)).setCell ⟨wr.heap.size + 1, 2, none⟩ (.int .i64 u.j)).setCell ⟨wr.heap.size + 1, 3, none⟩ (.int .i64 u.n)).setCell ⟨wr.heap.size + 1, 4, none⟩ (.slice a2 u.kids.length cap2)) := held_five hh _ _ _ _ _
                          have hLW : LiesP (((((wn.setCell ⟨wr.heap.size + 1, 0, none⟩ (.int .i64 u.k)).setCell ⟨wr.heap.size + 1, 1, none⟩ (.int .i64 u.i)).setCell ⟨wr.heap.size + 1, 2, none⟩ (.int .i64 u.j)).setCell ⟨wr.heap.size + 1, 3, none⟩ (.int .i64 u.n)).setCell ⟨wr.heap.size + 1, 4, none⟩ (.slice a2 u.kids.length cap2)) (Own wr.heap.size (((((wn.setCell ⟨wr.heap.size + 1, 0, none⟩ (.int .i64 u.k)).setCell ⟨wr.heap.size + 1, 1, none⟩ (.int .i64 u.i)).setCell ⟨wr.heap.size + 1, 2, none⟩ (.int .i64 u.j)).setCell ⟨wr.heap.size + 1, 3, none⟩ (.int .i64 u.n)).setCell ⟨wr.heap.size + 1, 4, none⟩ (.slice a2 u.kids.length cap2))) u.kids (.slice a2 u.kids.length cap2) := liesP_five (hl2.from (B' := wr.heap.size + 2) (by simp)) _ _ _ _ _
                          have hN : (((((wn.setCell ⟨wr.heap.size + 1, 0, none⟩ (.int .i64 u.k)).setCell ⟨wr.heap.size + 1, 1, none⟩ (.int .i64 u.i)).setCell ⟨wr.heap.size + 1, 2, none⟩ (.int .i64 u.j)).setCell ⟨wr.heap.size + 1, 3, none⟩ (.int .i64 u.n)).setCell ⟨wr.heap.size + 1, 4, none⟩ (.slice a2 u.kids.length cap2)).heap[wr.heap.size + 1]? = some (boxOf u (.slice a2 u.kids.length cap2)) := five_set hZ
                          clear hh hbn hl2 hZ g0 g1 g2 g3 g4 k0 k1 k2 k3 k4
                          generalize (((((wn.setCell ⟨wr.heap.size + 1, 0, none⟩ (.int .i64 u.k)).setCell ⟨wr.heap.size + 1, 1, none⟩ (.int .i64 u.i)).setCell ⟨wr.heap.size + 1, 2, none⟩ (.int .i64 u.j)).setCell ⟨wr.heap.size + 1, 3, none⟩ (.int .i64 u.n)).setCell ⟨wr.heap.size + 1, 4, none⟩ (.slice a2 u.kids.length cap2)) = W at hW hLW hN ⊢
                          have hdW := desk_trans hdk (below_from (held_below hW) hsz)
                          have hfW := hfu.later (held_below hW)
                          have hxq : q < xs.length := by rw [HXL.out]; exact hlt
                          have hLF := hfu.fresh hsz hLW
                          obtain ⟨-, -, q2⟩ := desk_blocks hdW
                          obtain ⟨y0, y1, y2, y3, y4⟩ := five_cells q2
                          obtain ⟨p0, p1, p2, p3, p4⟩ := five_cells hN
                          obtain ⟨x0, x1, x2, x3, x4⟩ := hfW.node q hxq
                          obtain ⟨cs, hcs⟩ := hfW.open'
                          have f0 := open_unfrozen hcs (q * 5)
                          have f1 := open_unfrozen hcs (q * 5 + 1)
                          have f2 := open_unfrozen hcs (q * 5 + 2)
                          have f3 := open_unfrozen hcs (q * 5 + 3)
                          have f4 := open_unfrozen hcs (q * 5 + 4)
                          have HFW := Lib.hid hfW
                          have HLF := Lib.hid hLF
                          have HFU := Lib.hid hfu
                          clear hcs hN hLW hW hfW hLF hfu d0 d1 d2 d3 d4 z0 z1 z2 z3 z4
                          go_wp2
                          go_roundw
                          case rel => exact ⟨q + 1, xs.set q (u, .slice a2 u.kids.length cap2), hlt, by go_num, by simp [Hid, HXL.out], by rw [Hid, optK_next hlt HXS.out hr, List.map_set, take_set_next _ _ _ (by simpa using hxq)], HFW.out.fill hxq HFI2.out HLF.out, desk_put hdW (Nat.le_refl _) _ _ _⟩
                          case measure => simp [intOf]; omega
                        · have hW : Held wr t.kids[q] (.slice a' t.kids[q].kids.length cap') (((((wn.setCell ⟨wr.heap.size + 1, 0, none⟩ (.int .i64 u.k)).setCell ⟨wr.heap.size + 1, 1, none⟩ (.int .i64 u.i)).setCell ⟨wr.heap.size + 1, 2, none⟩ (.int .i64 u.j)).setCell ⟨wr.heap.size + 1, 3, none⟩ (.int .i64 u.n)).setCell ⟨wr.heap.size + 1, 4, none⟩ (.slice a2 n2 cap2)) := held_five hh _ _ _ _ _
                          clear hh hbn hZ g0 g1 g2 g3 g4 k0 k1 k2 k3 k4
                          generalize (((((wn.setCell ⟨wr.heap.size + 1, 0, none⟩ (.int .i64 u.k)).setCell ⟨wr.heap.size + 1, 1, none⟩ (.int .i64 u.i)).setCell ⟨wr.heap.size + 1, 2, none⟩ (.int .i64 u.j)).setCell ⟨wr.heap.size + 1, 3, none⟩ (.int .i64 u.n)).setCell ⟨wr.heap.size + 1, 4, none⟩ (.slice a2 n2 cap2)) = W at hW ⊢
                          have hdW := desk_trans hdk (below_from (held_below hW) hsz)
                          obtain ⟨-, q1, -⟩ := desk_blocks hdW
                          obtain ⟨z0, z1, z2, z3, z4⟩ := five_cells q1
                          obtain ⟨f0, f1, f2, f3, f4⟩ := five_free q1
                          go_wp2
                          (try simp only [Exit.inBlock, Exit.then])
                          refine bodyPost_ret (results_cell_tmp rfl _ _ (w.heap.size + 1) _ _ _ du rfl (five_set q1) hu1 (by cases du <;> first | rfl | exact hu2) size_term) rfl ?_
                          exact GivesN.wide ⟨((((((desk_under hdW).setCell (by simp) _).setCell (by simp) _).setCell (by simp) _).setCell (by simp) _).setCell (by simp) _), Or.inr ⟨Tm.zero, none, 0, 0, by rw [HEQ.out, optK_stop hlt hr]; rfl, rfl⟩⟩ HBP.out
                      exact AllReadyH.nil
                    exact AllReadyH.nil
                  exact AllReadyH.nil
                exact AllReadyH.nil
          · have : q = t.kids.length := by omega
            subst this
            go_wp2_with fail
            (try simp only [Exit.inBlock, Exit.then])
            refine bodyPost_ret (results_cell_tmp rfl _ _ (w.heap.size + 1) _ _ _ du rfl (five_set q1) hu1 (by cases du <;> first | rfl | exact hu2) size_term) rfl ?_
            have hxe : (xs.map (·.1)).take t.kids.length = xs.map (·.1) := by rw [← HXL.out, ← List.length_map (f := (·.1)), List.take_length]
            have hres : t.putG g b pl = some (.mk t.k t.i t.j t.n (xs.map (·.1))) := by
              have := HXS.out
              rw [List.take_length, hxe] at this
              rw [HEQ.out, this]; rfl
            refine GivesN.wide ⟨((((((desk_under hdk).setCell (by simp) _).setCell (by simp) _).setCell (by simp) _).setCell (by simp) _).setCell (by simp) _), Or.inl ⟨_, _, hres, rfl, ?_⟩⟩ HBP.out
            refine five_lies (hfu.lies (cap := t.kids.length) (by rw [HXL.out]; exact Nat.le_refl _) (by unfold maxLen; omega)) HXL.out _ _ _ _ _
end Go.Proofs.Ytmhmengbhdaodaa
