/-
  The page's Lex.
-/
import Derived.Test.YtmflomepdmmodaaLexS
import Derived.Test.YtmflomepdmmodaaNumRG
namespace Go.Proofs.Ytmflomepdmmodaa
open Go.RowKit

theorem info_ptok : (Try.prog.info? 42).map (fun i => (i.zero, i.size, i.bytes)) = some (some (.agg #[.int .i64 0, .string ⟨#[]⟩, .int .i64 0]), 3, 32) := by kernel_rfl
theorem slice_two {P : Program} {t : TypeId} (w : World) (s : ByteArray) (p q : Nat) (ht : P.underlying t = some .string) (h : p ≤ q) (h2 : q ≤ s.size) :
    (Instr.slice t (.string s) (some (.int .i64 (p : Int))) (some (.int .i64 (q : Int))) none).run P w = .ok (.string (s.extract p q)) w := by
  rw [run_slice_string w t s .i64 .i64 _ _ ht (by omega) (by omega) (by omega)]
  rfl
theorem lx_blank {s : ByteArray} {p : Nat} (h : p < s.size) (hb : blankC s[p] = true) : lexL s.data.toList p = lexL s.data.toList (p + 1) := lexL_same (by rw [drop_at s p h, skipL_blank hb]; omega)
theorem lx_note {s : ByteArray} {p : Nat} (h : p < s.size) (hb : s[p].toNat = 59) : lexL s.data.toList p = lexL s.data.toList (p + runL lineC (s.data.toList.drop p)) := by
  have hline : lineC s[p] = true := by unfold lineC; rw [hb]; rfl
  have hbl : blankC s[p] = false := by unfold blankC; rw [hb]; rfl
  have hrl : runL lineC (s.data.toList.drop p) = runL lineC (s.data.toList.drop (p + 1)) + 1 := by rw [drop_at s p h, runL_yes hline]
  refine lexL_same ?_
  have hd : skipL (s.data.toList.drop p) = runL lineC (s.data.toList.drop (p + 1)) + 1 + skipL ((s.data.toList.drop (p + 1)).drop (runL lineC (s.data.toList.drop (p + 1)))) := by
    conv => lhs; rw [drop_at s p h]
    rw [skipL_note hbl hb]
  rw [List.drop_drop] at hd
  rw [hd, hrl, show p + (runL lineC (s.data.toList.drop (p + 1)) + 1) = p + 1 + runL lineC (s.data.toList.drop (p + 1)) by omega]
  omega
theorem lx_skip {s : ByteArray} {p : Nat} (h : p < s.size) (hb : blankC s[p] = false) (h59 : s[p].toNat ≠ 59) : p + skipL (s.data.toList.drop p) = p := by rw [drop_at s p h, skipL_stop hb h59]; rfl
theorem digit_sort {c : UInt8} (h : isd c = true) : c.toNat ≠ 40 ∧ c.toNat ≠ 41 ∧ c.toNat ≠ 59 ∧ blankC c = false := by
  unfold isd at h
  have h2 : 48 ≤ c.toNat ∧ c.toNat ≤ 57 := by simpa using h
  refine ⟨by omega, by omega, by omega, ?_⟩
  unfold blankC
  rw [beq_eq_false_iff_ne.2 (by omega : c.toNat ≠ 32), beq_eq_false_iff_ne.2 (by omega : c.toNat ≠ 9), beq_eq_false_iff_ne.2 (by omega : c.toNat ≠ 10)]; rfl
theorem letter_sort {c : UInt8} (h : letterC c = true) : c.toNat ≠ 40 ∧ c.toNat ≠ 41 ∧ c.toNat ≠ 59 ∧ blankC c = false := by
  unfold letterC at h
  have h2 : (97 ≤ c.toNat ∧ c.toNat ≤ 122) ∨ (65 ≤ c.toNat ∧ c.toNat ≤ 90) := by simpa using h
  refine ⟨by omega, by omega, by omega, ?_⟩
  unfold blankC
  rw [beq_eq_false_iff_ne.2 (by omega : c.toNat ≠ 32), beq_eq_false_iff_ne.2 (by omega : c.toNat ≠ 9), beq_eq_false_iff_ne.2 (by omega : c.toNat ≠ 10)]; rfl
theorem lx_tok {s : ByteArray} {p k n : Nat} {ts : List Tok} {R : List Tok × Option Nat} (hR : lexTo ts (lexL s.data.toList p) = R) (h : p < s.size) (hq : p + skipL (s.data.toList.drop p) = p) (hn : nextL (s.data.toList.drop p) = some (k, n)) : lexTo (ts ++ [⟨k, (s.data.toList.drop p).take n, p⟩]) (lexL s.data.toList (p + n)) = R := by
  rw [← hR, lexL_next hq (by simpa using h) hn]
  exact (lexTo_next ts ⟨k, _, p⟩ _).symm
theorem lx_bad {s : ByteArray} {p : Nat} {ts : List Tok} {R : List Tok × Option Nat} (hR : lexTo ts (lexL s.data.toList p) = R) (h : p < s.size) (hq : p + skipL (s.data.toList.drop p) = p) (hn : nextL (s.data.toList.drop p) = none) : R = (ts, some p) := by
  rw [← hR, lexL_fault hq (by simpa using h) hn]; simp [lexTo]

/-- What the page's Lex hands back. -/
def plexGives (T : TypeId) (w : World) (R : List Tok × Option Nat) (e : Ending) (w' : World) : Prop :=
  Below w.heap.size w w' ∧ ∃ v, Toks T w.heap.size w' v R.1 ∧ e = .returned (.tuple #[v, .int .i64 (match R.2 with | none => -1 | some p => (p : Int))])

set_option maxRecDepth 20000 in
set_option maxHeartbeats 8000000 in
theorem plex_any (s : ByteArray) (w : World) (hs : s.size ≤ 1000000) :
    Calls Try.prog 9 #[.string s] w (plexGives 42 w (lexL s.data.toList 0)) := by
  have HPL := Lib.hid pletter_any
  have HPD := Lib.hid pdigit_any
  have HGET := Lib.hid fun t w (h : t.size ≤ maxLen) => refget_any t w h
  have hsl : s.data.toList.length = s.size := by simp
  have HSL := Lib.hid hsl
  obtain ⟨R, hR⟩ : ∃ R, lexL s.data.toList 0 = R := ⟨_, rfl⟩
  rw [hR]
  have HRR := Lib.hid hR
  obtain ⟨i0, hi, hz0, hz1, hz2⟩ := tok_parts info_ptok
  have HI := Lib.hid (And.intro hi (And.intro hz0 (And.intro hz1 hz2)))
  clear hR hsl hi hz0 hz1 hz2
  go_enter Try.func9, Try.ntmps9
  go_wp2_with fail
  go_loopw [4, 5] (fun v i wr => ∃ (p : Nat) (ts : List Tok), p ≤ s.size ∧ ts.length ≤ p ∧ i = .int .i64 p ∧ Hid (lexTo ts (lexL s.data.toList p) = R) ∧ Hid (Toks 42 w.heap.size wr v ts) ∧ Below w.heap.size w wr) (fun _ i _ => s.size - (intOf i).toNat)
  case atStart => exact ⟨0, [], Nat.zero_le _, Nat.zero_le _, rfl, by rw [Hid, HRR.out]; simp [lexTo], toks_nil _ _ _, Below.refl _ _⟩
  case round =>
    obtain ⟨p, ts, hp, htp, rfl, hR, hT, hB⟩ := hrel
    have HB := Lib.hid hB
    have hB2 := hB.size
    clear hB
    by_cases hlt : p < s.size
    · by_cases c32 : s[p].toNat = 32
      · have b32 : ((s[p].toNat : Int) == 32) = true := (u8_eq (n := 32)).trans (by rw [c32]; rfl)
        have HN := Lib.hid (show lexTo ts (lexL s.data.toList (p + 1)) = R by rw [← lx_blank hlt (by unfold blankC; rw [c32]; rfl)]; exact hR.out)
        clear c32 hR
        go_wp2_with fail
        go_roundw
        case rel => exact ⟨p + 1, ts, hlt, by omega, by go_num, HN.out, hT, HB.out⟩
        case measure => simp [intOf]; omega
      have b32 : ((s[p].toNat : Int) == 32) = false := (u8_eq (n := 32)).trans (beq_eq_false_iff_ne.2 c32)
      by_cases c9 : s[p].toNat = 9
      · have b9 : ((s[p].toNat : Int) == 9) = true := (u8_eq (n := 9)).trans (by rw [c9]; rfl)
        have HN := Lib.hid (show lexTo ts (lexL s.data.toList (p + 1)) = R by rw [← lx_blank hlt (by unfold blankC; rw [c9]; rfl)]; exact hR.out)
        clear c9 hR
        go_wp2_with fail
        go_roundw
        case rel => exact ⟨p + 1, ts, hlt, by omega, by go_num, HN.out, hT, HB.out⟩
        case measure => simp [intOf]; omega
      have b9 : ((s[p].toNat : Int) == 9) = false := (u8_eq (n := 9)).trans (beq_eq_false_iff_ne.2 c9)
      by_cases c10 : s[p].toNat = 10
      · have b10 : ((s[p].toNat : Int) == 10) = true := (u8_eq (n := 10)).trans (by rw [c10]; rfl)
        have HN := Lib.hid (show lexTo ts (lexL s.data.toList (p + 1)) = R by rw [← lx_blank hlt (by unfold blankC; rw [c10]; rfl)]; exact hR.out)
        clear c10 hR
        go_wp2_with fail
        go_roundw
        case rel => exact ⟨p + 1, ts, hlt, by omega, by go_num, HN.out, hT, HB.out⟩
        case measure => simp [intOf]; omega
      have b10 : ((s[p].toNat : Int) == 10) = false := (u8_eq (n := 10)).trans (beq_eq_false_iff_ne.2 c10)
      have hblank : blankC s[p] = false := by unfold blankC; rw [beq_eq_false_iff_ne.2 c32, beq_eq_false_iff_ne.2 c9, beq_eq_false_iff_ne.2 c10]; rfl
      clear c32 c9 c10
      by_cases c59 : s[p].toNat = 59
      · have b59 : ((s[p].toNat : Int) == 59) = true := (u8_eq (n := 59)).trans (by rw [c59]; rfl)
        have hle := runL_at lineC s p hp
        obtain ⟨E, hE⟩ : ∃ E, p + runL lineC (s.data.toList.drop p) = E := ⟨_, rfl⟩
        have HE := Lib.hid hE
        have HN := Lib.hid (show lexTo ts (lexL s.data.toList E) = R by rw [← hE, ← lx_note hlt c59]; exact hR.out)
        have hE1 : p < E := by
          rw [← hE, drop_at s p hlt, runL_yes (by unfold lineC; rw [c59]; rfl)]; omega
        rw [hE] at hle
        clear hE c59 hR hblank
        go_wp2_with fail
        go_loop [5] (fun i => ∃ k : Nat, k ≤ s.size ∧ i = .int .i64 k ∧ Hid (k + runL lineC (s.data.toList.drop k) = E)) (fun i => s.size - (intOf i).toNat)
        case atStart => exact ⟨p, hp, rfl, HE.out⟩
        case round =>
          obtain ⟨k, hk, rfl, hq⟩ := hrel
          by_cases hk2 : k < s.size
          · have hd := hq.out
            rw [drop_at s k hk2] at hd
            by_cases d10 : s[k].toNat = 10
            · have f10 : ((s[k].toNat : Int) == 10) = true := (u8_eq (n := 10)).trans (by rw [d10]; rfl)
              have e10 : ((s[k].toNat : Int) != 10) = false := by rw [bne, f10]; rfl
              rw [runL_no (by unfold lineC; rw [d10]; rfl)] at hd
              obtain rfl : k = E := by omega
              clear hd hq d10 HE
              go_wp2_with fail
              go_roundw
              case rel => exact ⟨k, ts, hk, by omega, rfl, HN.out, hT, HB.out⟩
              case measure => simp [intOf]; omega
            · have f10 : ((s[k].toNat : Int) == 10) = false := (u8_eq (n := 10)).trans (beq_eq_false_iff_ne.2 d10)
              have e10 : ((s[k].toNat : Int) != 10) = true := by rw [bne, f10]; rfl
              rw [runL_yes (by unfold lineC; rw [beq_eq_false_iff_ne.2 d10]; rfl)] at hd
              have HQ := Lib.hid (show k + 1 + runL lineC (s.data.toList.drop (k + 1)) = E by omega)
              clear hd hq d10
              go_wp2_with fail
              go_round
              case rel => exact ⟨k + 1, hk2, by go_num, HQ.out⟩
              case measure => simp [intOf]; omega
          · have hd := hq.out
            rw [List.drop_of_length_le (by rw [HSL.out]; omega)] at hd
            obtain rfl : k = E := by simpa [runL] using hd
            clear hd hq HE
            go_wp2_with fail
            go_roundw
            case rel => exact ⟨k, ts, hk, by omega, rfl, HN.out, hT, HB.out⟩
            case measure => simp [intOf]; omega
      have b59 : ((s[p].toNat : Int) == 59) = false := (u8_eq (n := 59)).trans (beq_eq_false_iff_ne.2 c59)
      have hsk := lx_skip hlt hblank c59
      have HSKP := Lib.hid hsk
      clear hblank c59 hsk
      by_cases c40 : s[p].toNat = 40
      · have b40 : ((s[p].toNat : Int) == 40) = true := (u8_eq (n := 40)).trans (by rw [c40]; rfl)
        have HN := Lib.hid (show lexTo (ts ++ [⟨1, [40], p⟩]) (lexL s.data.toList (p + 1)) = R by
          have h0 := lx_tok hR.out hlt (lx_skip hlt (by unfold blankC; rw [c40]; rfl) (by omega)) (by rw [drop_at s p hlt]; exact next_open c40)
          rw [drop_at s p hlt, List.take_succ_cons, List.take_zero, show s[p] = 40 from UInt8.toNat_inj.1 (by rw [c40]; rfl)] at h0
          exact h0)
        clear c40 hR
        go_wp2_with (at_builtin; refine wpList_append_lies _ rfl _ _ 26 rfl w.heap.size 42 i0 _ 3 32 (by kernel_rfl) HI.out.1 HI.out.2.1 HI.out.2.2.1 HI.out.2.2.2 rfl (by decide) _ ts.length (cells3 ts) rfl (toks_later hT.out ((Below.refl _ _).alloc (Nat.le_refl _) _)) _ 1 1 (cells3 [⟨1, [40], p⟩]) rfl rfl ?news ?one (by decide) ?max ?bytes ?base _ rfl ?next)
        case news => first | exact news_tok _ _ _ | (intro j u h; exact h)
        case one => intro v hv; simp [cells3] at hv; rcases hv with rfl | rfl | rfl <;> rfl
        case max => unfold maxLen; omega
        case bytes => omega
        case base => first | (simp; omega) | omega
        case next =>
          intro g cap3 w3 hown hgrow hat _
          have HT2 := Lib.hid (toks_step hown)
          have HB2 := Lib.hid ((HB.out.alloc hB2 _).grown hgrow (by first | (simp; omega) | omega) (toks_above hT.out))
          clear hown hgrow hat
          go_wp2_with fail
          go_roundw
          case rel => exact ⟨p + 1, ts ++ [⟨1, [40], p⟩], by omega, by simp; omega, by go_num, HN, HT2, HB2.out⟩
          case measure => simp [intOf]; omega
      have b40 : ((s[p].toNat : Int) == 40) = false := (u8_eq (n := 40)).trans (beq_eq_false_iff_ne.2 c40)
      by_cases c41 : s[p].toNat = 41
      · have b41 : ((s[p].toNat : Int) == 41) = true := (u8_eq (n := 41)).trans (by rw [c41]; rfl)
        have HN := Lib.hid (show lexTo (ts ++ [⟨2, [41], p⟩]) (lexL s.data.toList (p + 1)) = R by
          have h0 := lx_tok hR.out hlt (lx_skip hlt (by unfold blankC; rw [c41]; rfl) (by omega)) (by rw [drop_at s p hlt]; exact next_close c41)
          rw [drop_at s p hlt, List.take_succ_cons, List.take_zero, show s[p] = 41 from UInt8.toNat_inj.1 (by rw [c41]; rfl)] at h0
          exact h0)
        clear c41 hR
        go_wp2_with (at_builtin; refine wpList_append_lies _ rfl _ _ 26 rfl w.heap.size 42 i0 _ 3 32 (by kernel_rfl) HI.out.1 HI.out.2.1 HI.out.2.2.1 HI.out.2.2.2 rfl (by decide) _ ts.length (cells3 ts) rfl (toks_later hT.out ((Below.refl _ _).alloc (Nat.le_refl _) _)) _ 1 1 (cells3 [⟨2, [41], p⟩]) rfl rfl ?news ?one (by decide) ?max ?bytes ?base _ rfl ?next)
        case news => first | exact news_tok _ _ _ | (intro j u h; exact h)
        case one => intro v hv; simp [cells3] at hv; rcases hv with rfl | rfl | rfl <;> rfl
        case max => unfold maxLen; omega
        case bytes => omega
        case base => first | (simp; omega) | omega
        case next =>
          intro g cap3 w3 hown hgrow hat _
          have HT2 := Lib.hid (toks_step hown)
          have HB2 := Lib.hid ((HB.out.alloc hB2 _).grown hgrow (by first | (simp; omega) | omega) (toks_above hT.out))
          clear hown hgrow hat
          go_wp2_with fail
          go_roundw
          case rel => exact ⟨p + 1, ts ++ [⟨2, [41], p⟩], by omega, by simp; omega, by go_num, HN, HT2, HB2.out⟩
          case measure => simp [intOf]; omega
      have b41 : ((s[p].toNat : Int) == 41) = false := (u8_eq (n := 41)).trans (beq_eq_false_iff_ne.2 c41)
      have HLC := Lib.hid (HPL.out s[p])
      cases cl : letterC s[p] with
      | true =>
        rw [cl] at HLC
        obtain ⟨n, hn⟩ : ∃ n, runL wordC (s.data.toList.drop p) = n := ⟨_, rfl⟩
        have hle := runL_at wordC s p hp
        rw [hn] at hle
        have hn1 : 1 ≤ n := by rw [← hn, drop_at s p hlt, runL_yes (by unfold wordC; rw [cl]; rfl)]; omega
        obtain ⟨E, hE⟩ : ∃ E, p + n = E := ⟨_, rfl⟩
        obtain ⟨c, hc⟩ : ∃ c, (s.data.toList.drop p).take n = c := ⟨_, rfl⟩
        have HE := Lib.hid (show p + runL wordC (s.data.toList.drop p) = E by rw [hn]; exact hE)
        have hsub : IntKind.i64.wrap ((E : Int) - (p : Int)) = (n : Int) := by rw [← hE, show ((p + n : Nat) : Int) - (p : Int) = n by omega]; exact IntWalk.i64_in _ (by omega)
        have hsli : ∀ w', (Instr.slice 9 (.string s) (some (.int .i64 (p : Int))) (some (.int .i64 (E : Int))) none).run Try.prog w' = .ok (.string ⟨c.toArray⟩) w' := fun w' => by
          rw [slice_two w' s p E rfl (by omega) (by omega), Lib.extract_eq, ← hE, Nat.add_sub_cancel_left, hc]
        have HLONG := Lib.hid (show 20 < n → R = (ts, some p) from fun h => lx_bad hR.out hlt HSKP.out (by rw [drop_at s p hlt]; exact next_long c40 c41 cl (by rw [← drop_at s p hlt, hn]; exact h)))
        have HSHORT := Lib.hid (show ¬ 20 < n → lexTo (ts ++ [⟨3, c, p⟩]) (lexL s.data.toList E) = R from fun h => by
          have h0 := lx_tok hR.out hlt HSKP.out (k := 3) (n := n) (by rw [drop_at s p hlt, next_word c40 c41 cl (by rw [← drop_at s p hlt, hn]; exact h), ← drop_at s p hlt, hn])
          rw [hc, hE] at h0; exact h0)
        have hpE : p < E := by omega
        have hEs : E ≤ s.size := by omega
        clear hE hc hn hR c40 c41 cl hle
        go_wp2_with fail
        refine (HLC.out _).mono ?_
        rintro e w1 ⟨rfl, rfl⟩
        go_wp2_with fail
        go_loop [7] (fun i => ∃ k : Nat, k ≤ s.size ∧ i = .int .i64 k ∧ Hid (k + runL wordC (s.data.toList.drop k) = E)) (fun i => s.size - (intOf i).toNat)
        case atStart => exact ⟨p, hp, rfl, HE.out⟩
        case round =>
          obtain ⟨k, hk, rfl, hq⟩ := hrel
          by_cases hk2 : k < s.size
          · have hd := hq.out
            rw [drop_at s k hk2] at hd
            have HKL := Lib.hid (HPL.out s[k])
            have HKD := Lib.hid (HPD.out s[k])
            cases d1 : letterC s[k] with
            | true =>
              rw [d1] at HKL
              rw [runL_yes (by unfold wordC; rw [d1]; rfl)] at hd
              have HQ := Lib.hid (show k + 1 + runL wordC (s.data.toList.drop (k + 1)) = E by omega)
              clear hd hq d1 hsub hsli
              go_wp2_with fail
              refine (HKL.out _).mono ?_
              rintro e w1 ⟨rfl, rfl⟩
              go_wp2_with fail
              go_round
              case rel => exact ⟨k + 1, hk2, by go_num, HQ.out⟩
              case measure => simp [intOf]; omega
            | false =>
              rw [d1] at HKL
              cases d2 : isd s[k] with
              | true =>
                rw [d2] at HKD
                rw [runL_yes (by unfold wordC; rw [d1, d2]; rfl)] at hd
                have HQ := Lib.hid (show k + 1 + runL wordC (s.data.toList.drop (k + 1)) = E by omega)
                clear hd hq d1 d2 hsub hsli
                go_wp2_with fail
                refine (HKL.out _).mono ?_
                rintro e w1 ⟨rfl, rfl⟩
                go_wp2_with fail
                refine (HKD.out _).mono ?_
                rintro e w1 ⟨rfl, rfl⟩
                go_wp2_with fail
                go_round
                case rel => exact ⟨k + 1, hk2, by go_num, HQ.out⟩
                case measure => simp [intOf]; omega
              | false =>
                rw [d2] at HKD
                rw [runL_no (by unfold wordC; rw [d1, d2]; rfl)] at hd
                obtain rfl : k = E := by omega
                clear hd hq d1 d2 HE
                go_wp2_with fail
                refine (HKL.out _).mono ?_
                rintro e w1 ⟨rfl, rfl⟩
                go_wp2_with fail
                refine (HKD.out _).mono ?_
                rintro e w1 ⟨rfl, rfl⟩
                by_cases h20 : 20 < n
                · have h20' : 20 < (n : Int) := by omega
                  have HF := Lib.hid (HLONG.out h20)
                  go_wp2
                  go_ret2
                  exact ⟨HB.out, by rw [HF.out]; exact ⟨_, hT.out, rfl⟩⟩
                · have h20' : ¬ 20 < (n : Int) := by omega
                  have HF := Lib.hid (HSHORT.out h20)
                  go_wp2_with (at_builtin; refine wpList_append_lies _ rfl _ _ 26 rfl w.heap.size 42 i0 _ 3 32 (by kernel_rfl) HI.out.1 HI.out.2.1 HI.out.2.2.1 HI.out.2.2.2 rfl (by decide) _ ts.length (cells3 ts) rfl (toks_later hT.out ((Below.refl _ _).alloc (Nat.le_refl _) _)) _ 1 1 (cells3 [⟨3, c, p⟩]) rfl rfl ?news ?one (by decide) ?max ?bytes ?base _ rfl ?next)
                  case news => first | exact news_tok _ _ _ | (intro j u h; exact h)
                  case one => intro v hv; simp [cells3] at hv; rcases hv with rfl | rfl | rfl <;> rfl
                  case max => unfold maxLen; omega
                  case bytes => omega
                  case base => first | (simp; omega) | omega
                  case next =>
                    intro g cap3 w3 hown hgrow hat _
                    have HT2 := Lib.hid (toks_step hown)
                    have HB2 := Lib.hid ((HB.out.alloc hB2 _).grown hgrow (by first | (simp; omega) | omega) (toks_above hT.out))
                    clear hown hgrow hat
                    go_wp2_with fail
                    go_roundw
                    case rel => exact ⟨k, ts ++ [⟨3, c, p⟩], by omega, by simp; omega, rfl, HF, HT2, HB2.out⟩
                    case measure => simp [intOf]; omega
          · have hd := hq.out
            rw [List.drop_of_length_le (by rw [HSL.out]; omega)] at hd
            obtain rfl : k = E := by simpa [runL] using hd
            clear hd hq HE
            by_cases h20 : 20 < n
            · have h20' : 20 < (n : Int) := by omega
              have HF := Lib.hid (HLONG.out h20)
              go_wp2
              go_ret2
              exact ⟨HB.out, by rw [HF.out]; exact ⟨_, hT.out, rfl⟩⟩
            · have h20' : ¬ 20 < (n : Int) := by omega
              have HF := Lib.hid (HSHORT.out h20)
              go_wp2_with (at_builtin; refine wpList_append_lies _ rfl _ _ 26 rfl w.heap.size 42 i0 _ 3 32 (by kernel_rfl) HI.out.1 HI.out.2.1 HI.out.2.2.1 HI.out.2.2.2 rfl (by decide) _ ts.length (cells3 ts) rfl (toks_later hT.out ((Below.refl _ _).alloc (Nat.le_refl _) _)) _ 1 1 (cells3 [⟨3, c, p⟩]) rfl rfl ?news ?one (by decide) ?max ?bytes ?base _ rfl ?next)
              case news => first | exact news_tok _ _ _ | (intro j u h; exact h)
              case one => intro v hv; simp [cells3] at hv; rcases hv with rfl | rfl | rfl <;> rfl
              case max => unfold maxLen; omega
              case bytes => omega
              case base => first | (simp; omega) | omega
              case next =>
                intro g cap3 w3 hown hgrow hat _
                have HT2 := Lib.hid (toks_step hown)
                have HB2 := Lib.hid ((HB.out.alloc hB2 _).grown hgrow (by first | (simp; omega) | omega) (toks_above hT.out))
                clear hown hgrow hat
                go_wp2_with fail
                go_roundw
                case rel => exact ⟨k, ts ++ [⟨3, c, p⟩], by omega, by simp; omega, rfl, HF, HT2, HB2.out⟩
                case measure => simp [intOf]; omega
      | false =>
        rw [cl] at HLC
        have HDC := Lib.hid (HPD.out s[p])
        cases cd : isd s[p] with
        | true =>
          rw [cd] at HDC
          obtain ⟨n, hn⟩ : ∃ n, runL isd (s.data.toList.drop p) = n := ⟨_, rfl⟩
          have hle := runL_at isd s p hp
          rw [hn] at hle
          have hn1 : 1 ≤ n := by rw [← hn, drop_at s p hlt, runL_yes cd]; omega
          obtain ⟨E, hE⟩ : ∃ E, p + n = E := ⟨_, rfl⟩
          obtain ⟨c, hc⟩ : ∃ c, (s.data.toList.drop p).take n = c := ⟨_, rfl⟩
          have HE := Lib.hid (show p + runL isd (s.data.toList.drop p) = E by rw [hn]; exact hE)
          have hsli : ∀ w', (Instr.slice 9 (.string s) (some (.int .i64 (p : Int))) (some (.int .i64 (E : Int))) none).run Try.prog w' = .ok (.string ⟨c.toArray⟩) w' := fun w' => by
            rw [slice_two w' s p E rfl (by omega) (by omega), Lib.extract_eq, ← hE, Nat.add_sub_cancel_left, hc]
          have hcl : c.length ≤ s.size := by rw [← hc, List.length_take, List.length_drop, HSL.out]; omega
          have HG := Lib.hid (fun w => HGET.out ⟨c.toArray⟩ w (by show c.toArray.size ≤ maxLen; unfold maxLen; simp; omega))
          rw [show (ByteArray.mk c.toArray).data.toList = c from rfl] at HG
          have HBAD := Lib.hid (show (getB c = none ∨ (((s.data.toList.drop E).head?.map letterC).getD false) = true) → R = (ts, some p) from fun h => lx_bad hR.out hlt HSKP.out (by
            rw [drop_at s p hlt]; exact next_bad c40 c41 cl cd (by rw [← drop_at s p hlt, hn, hc, List.drop_drop, hE]; exact h)))
          have HGOOD := Lib.hid (show getB c ≠ none → (((s.data.toList.drop E).head?.map letterC).getD false) = false → lexTo (ts ++ [⟨4, c, p⟩]) (lexL s.data.toList E) = R from fun h h' => by
            have h0 := lx_tok hR.out hlt HSKP.out (k := 4) (n := n) (by
              rw [drop_at s p hlt, next_num c40 c41 cl cd (by rw [← drop_at s p hlt, hn, hc, List.drop_drop, hE]; rintro (h1 | h1); exact h h1; rw [h'] at h1; cases h1), ← drop_at s p hlt, hn])
            rw [hc, hE] at h0; exact h0)
          have hpE : p < E := by omega
          have hEs : E ≤ s.size := by omega
          clear hE hc hn hR c40 c41 cl cd hle hcl
          go_wp2_with fail
          refine (HLC.out _).mono ?_
          rintro e w1 ⟨rfl, rfl⟩
          go_wp2_with fail
          refine (HDC.out _).mono ?_
          rintro e w1 ⟨rfl, rfl⟩
          go_wp2_with fail
          go_loop [7] (fun i => ∃ k : Nat, k ≤ s.size ∧ i = .int .i64 k ∧ Hid (k + runL isd (s.data.toList.drop k) = E)) (fun i => s.size - (intOf i).toNat)
          case atStart => exact ⟨p, hp, rfl, HE.out⟩
          case round =>
            obtain ⟨k, hk, rfl, hq⟩ := hrel
            by_cases hk2 : k < s.size
            · have hd := hq.out
              rw [drop_at s k hk2] at hd
              have HKD := Lib.hid (HPD.out s[k])
              cases d2 : isd s[k] with
              | true =>
                rw [d2] at HKD
                rw [runL_yes d2] at hd
                have HQ := Lib.hid (show k + 1 + runL isd (s.data.toList.drop (k + 1)) = E by omega)
                clear hd hq d2 hsli
                go_wp2_with fail
                refine (HKD.out _).mono ?_
                rintro e w1 ⟨rfl, rfl⟩
                go_wp2_with fail
                go_round
                case rel => exact ⟨k + 1, hk2, by go_num, HQ.out⟩
                case measure => simp [intOf]; omega
              | false =>
                rw [d2] at HKD
                rw [runL_no d2] at hd
                obtain rfl : k = E := by omega
                clear hd hq d2 HE
                go_wp2_with fail
                refine (HKD.out _).mono ?_
                rintro e w1 ⟨rfl, rfl⟩
                cases hg : getB c with
                | none =>
                  have HF := Lib.hid (HBAD.out (Or.inl hg))
                  rw [getV_none hg] at HG
                  clear hg
                  go_wp2_with fail
                  refine (HG.out _).mono ?_
                  rintro e w1 ⟨rfl, rfl⟩
                  go_wp2
                  go_ret2
                  exact ⟨HB.out, by rw [HF.out]; exact ⟨_, hT.out, rfl⟩⟩
                | some v =>
                  rw [getV_some hg] at HG
                  have HKL := Lib.hid (HPL.out s[k])
                  cases d1 : letterC s[k] with
                  | true =>
                    rw [d1] at HKL
                    have HF := Lib.hid (HBAD.out (Or.inr (by rw [drop_at s k hk2]; exact d1)))
                    clear hg d1
                    go_wp2_with fail
                    refine (HG.out _).mono ?_
                    rintro e w1 ⟨rfl, rfl⟩
                    go_wp2_with fail
                    refine (HKL.out _).mono ?_
                    rintro e w1 ⟨rfl, rfl⟩
                    go_wp2
                    go_ret2
                    exact ⟨HB.out, by rw [HF.out]; exact ⟨_, hT.out, rfl⟩⟩
                  | false =>
                    rw [d1] at HKL
                    have HF := Lib.hid (HGOOD.out (by rw [hg]; simp) (by rw [drop_at s k hk2]; exact d1))
                    clear hg d1
                    go_wp2_with fail
                    refine (HG.out _).mono ?_
                    rintro e w1 ⟨rfl, rfl⟩
                    go_wp2_with fail
                    refine (HKL.out _).mono ?_
                    rintro e w1 ⟨rfl, rfl⟩
                    go_wp2_with (at_builtin; refine wpList_append_lies _ rfl _ _ 26 rfl w.heap.size 42 i0 _ 3 32 (by kernel_rfl) HI.out.1 HI.out.2.1 HI.out.2.2.1 HI.out.2.2.2 rfl (by decide) _ ts.length (cells3 ts) rfl (toks_later hT.out ((Below.refl _ _).alloc (Nat.le_refl _) _)) _ 1 1 (cells3 [⟨4, c, p⟩]) rfl rfl ?news ?one (by decide) ?max ?bytes ?base _ rfl ?next)
                    case news => first | exact news_tok _ _ _ | (intro j u h; exact h)
                    case one => intro v hv; simp [cells3] at hv; rcases hv with rfl | rfl | rfl <;> rfl
                    case max => unfold maxLen; omega
                    case bytes => omega
                    case base => first | (simp; omega) | omega
                    case next =>
                      intro g cap3 w3 hown hgrow hat _
                      have HT2 := Lib.hid (toks_step hown)
                      have HB2 := Lib.hid ((HB.out.alloc hB2 _).grown hgrow (by first | (simp; omega) | omega) (toks_above hT.out))
                      clear hown hgrow hat
                      go_wp2_with fail
                      go_roundw
                      case rel => exact ⟨k, ts ++ [⟨4, c, p⟩], by omega, by simp; omega, rfl, HF, HT2, HB2.out⟩
                      case measure => simp [intOf]; omega
            · have hd := hq.out
              rw [List.drop_of_length_le (by rw [HSL.out]; omega)] at hd
              obtain rfl : k = E := by simpa [runL] using hd
              clear hd hq HE
              cases hg : getB c with
              | none =>
                have HF := Lib.hid (HBAD.out (Or.inl hg))
                rw [getV_none hg] at HG
                clear hg
                go_wp2_with fail
                refine (HG.out _).mono ?_
                rintro e w1 ⟨rfl, rfl⟩
                go_wp2
                go_ret2
                exact ⟨HB.out, by rw [HF.out]; exact ⟨_, hT.out, rfl⟩⟩
              | some v =>
                rw [getV_some hg] at HG
                have HF := Lib.hid (HGOOD.out (by rw [hg]; simp) (by rw [List.drop_of_length_le (by rw [HSL.out]; omega)]; rfl))
                clear hg
                go_wp2_with fail
                refine (HG.out _).mono ?_
                rintro e w1 ⟨rfl, rfl⟩
                go_wp2_with (at_builtin; refine wpList_append_lies _ rfl _ _ 26 rfl w.heap.size 42 i0 _ 3 32 (by kernel_rfl) HI.out.1 HI.out.2.1 HI.out.2.2.1 HI.out.2.2.2 rfl (by decide) _ ts.length (cells3 ts) rfl (toks_later hT.out ((Below.refl _ _).alloc (Nat.le_refl _) _)) _ 1 1 (cells3 [⟨4, c, p⟩]) rfl rfl ?news ?one (by decide) ?max ?bytes ?base _ rfl ?next)
                case news => first | exact news_tok _ _ _ | (intro j u h; exact h)
                case one => intro v hv; simp [cells3] at hv; rcases hv with rfl | rfl | rfl <;> rfl
                case max => unfold maxLen; omega
                case bytes => omega
                case base => first | (simp; omega) | omega
                case next =>
                  intro g cap3 w3 hown hgrow hat _
                  have HT2 := Lib.hid (toks_step hown)
                  have HB2 := Lib.hid ((HB.out.alloc hB2 _).grown hgrow (by first | (simp; omega) | omega) (toks_above hT.out))
                  clear hown hgrow hat
                  go_wp2_with fail
                  go_roundw
                  case rel => exact ⟨k, ts ++ [⟨4, c, p⟩], by omega, by simp; omega, rfl, HF, HT2, HB2.out⟩
                  case measure => simp [intOf]; omega
        | false =>
          rw [cd] at HDC
          have HF := Lib.hid (lx_bad hR.out hlt HSKP.out (by rw [drop_at s p hlt]; exact next_other c40 c41 cl cd))
          clear hR c40 c41 cl cd
          go_wp2_with fail
          refine (HLC.out _).mono ?_
          rintro e w1 ⟨rfl, rfl⟩
          go_wp2_with fail
          refine (HDC.out _).mono ?_
          rintro e w1 ⟨rfl, rfl⟩
          go_wp2
          go_ret2
          exact ⟨HB.out, by rw [HF.out]; exact ⟨_, hT.out, rfl⟩⟩
    · have : p = s.size := by omega
      have hf := lexL_end (l := s.data.toList) (p := p) (by rw [HSL.out]; omega)
      have HF := Lib.hid (show R = (ts, none) by rw [← hR.out, hf]; simp [lexTo])
      clear hf hR
      subst this
      go_wp2
      go_ret2
      exact ⟨HB.out, by rw [HF.out]; exact ⟨_, hT.out, rfl⟩⟩
end Go.Proofs.Ytmflomepdmmodaa
