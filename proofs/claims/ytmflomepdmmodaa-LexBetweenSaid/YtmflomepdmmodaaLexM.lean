/-
  lex: tokens in memory; Lex.
-/
import Derived.Test.YtmflomepdmmodaaLexN
import Derived.Deep.AppendLies
import Derived.Laws.Rows
import Derived.OwnWalk
import Derived.KernelRfl
namespace Go.Proofs.Ytmflomepdmmodaa
open Go.RowKit

def cells3 : List Tok → List Value
  | [] => []
  | t :: r => .int .i64 t.k :: .string ⟨t.s.toArray⟩ :: .int .i64 t.at_ :: cells3 r
theorem cells3_length : ∀ ps : List Tok, (cells3 ps).length = ps.length * 3
  | [] => rfl
  | t :: r => by simp [cells3, cells3_length r]; omega
theorem cells3_append : ∀ ps qs : List Tok, cells3 (ps ++ qs) = cells3 ps ++ cells3 qs
  | [], qs => rfl
  | t :: r, qs => by simp [cells3, cells3_append r qs]
theorem cells3_get : ∀ (ps : List Tok) (i : Nat) (h : i < ps.length) (q : Nat), q < 3 → (cells3 ps)[i * 3 + q]? = [Value.int .i64 (ps[i]).k, .string ⟨(ps[i]).s.toArray⟩, .int .i64 (ps[i]).at_][q]?
  | t :: r, 0, _, q, hq => by
    rw [Nat.zero_mul, Nat.zero_add]
    match q, hq with
    | 0, _ => rfl
    | 1, _ => rfl
    | 2, _ => rfl
  | t :: r, i + 1, h, q, hq => by
    have := cells3_get r i (by simpa using h) q hq
    rw [show (i + 1) * 3 + q = (i * 3 + q) + 3 by omega]
    simpa [cells3] using this
/-- A list of tokens that the call has made so far. -/
def Toks (T : TypeId) (B : Nat) (w : World) (v : Value) (ts : List Tok) : Prop := w.ownsRow B T 3 v ts.length (cells3 ts)
theorem toks_nil (T : TypeId) (B : Nat) (w : World) : Toks T B w (.slice none 0 0) [] := ⟨rfl, Or.inl ⟨rfl, rfl⟩⟩
theorem toks_later {T : TypeId} {B : Nat} {w w' : World} {v : Value} {ts : List Tok} (h : Toks T B w v ts) (hb : Below w.heap.size w w') : Toks T B w' v ts := by
  obtain ⟨h1, h2⟩ := h
  refine ⟨h1, ?_⟩
  rcases h2 with h2 | ⟨g, cap, cur, hv, hg, hh, r⟩
  · exact Or.inl h2
  · refine Or.inr ⟨g, cap, cur, hv, hg, ?_, r⟩
    rw [hb.block g ?_]; exact hh
    exact (Array.getElem?_eq_some_iff.1 hh).1
theorem toks_above {T : TypeId} {B : Nat} {w : World} {v : Value} {ts : List Tok} (h : Toks T B w v ts) : ∀ k, v.ownBlock = some k → B ≤ k := by
  intro k hk
  rcases h.2 with ⟨rfl, -⟩ | ⟨g, cap, cur, rfl, hg, -⟩
  · simp [Value.ownBlock] at hk
  · simp [Value.ownBlock] at hk; omega
theorem toks_step {T : TypeId} {B : Nat} {w : World} {v : Value} {ts : List Tok} {t : Tok} (h : w.ownsRow B T 3 v (ts.length + 1) (cells3 ts ++ cells3 [t])) : Toks T B w v (ts ++ [t]) := by
  unfold Toks; rw [cells3_append]; simpa using h
theorem alloc_new3 (w : World) (o : Obj) : (w.alloc o).heap[w.heap.size]? = some o := by
  unfold World.alloc; simp
theorem news_tok (w : World) (t : Tok) (T : TypeId) : ∀ j u, (cells3 [t])[j]? = some u → (w.alloc (.cells #[.int .i64 t.k, .string ⟨t.s.toArray⟩, .int .i64 t.at_] T)).cell? ((⟨w.heap.size, 0, none⟩ : Addr).add j) = some u :=
  World.news_of_block (alloc_new3 w _)
theorem info_tok : (Try.prog.info? 33).map (fun i => (i.zero, i.size, i.bytes)) = some (some (.agg #[.int .i64 0, .string ⟨#[]⟩, .int .i64 0]), 3, 32) := by kernel_rfl
theorem tok_parts {i : Option TypeInfo} {z : Value} {n m : Nat} (h : i.map (fun i => (i.zero, i.size, i.bytes)) = some (some z, n, m)) : ∃ i0, i = some i0 ∧ i0.zero = some z ∧ i0.size = n ∧ i0.bytes = m := by
  cases i with
  | none => cases h
  | some i0 => simp at h; exact ⟨i0, rfl, h.1, h.2.1, h.2.2⟩
theorem lexTo_next (ts : List Tok) (t : Tok) (r : List Tok × Option Nat) : lexTo ts (t :: r.1, r.2) = lexTo (ts ++ [t]) r := by simp [lexTo]

/-- What Lex hands back. -/
def lexGives (T : TypeId) (w : World) (R : List Tok × Option Nat) (e : Ending) (w' : World) : Prop :=
  Below w.heap.size w w' ∧ match R.2 with
    | none => ∃ v, Toks T w.heap.size w' v R.1 ∧ e = .returned (.tuple #[v, .int .i64 0, .int .i64 0])
    | some p => e = .returned (.tuple #[.slice none 0 0, .int .i64 2, .int .i64 p])

set_option maxHeartbeats 2000000 in
theorem lex_any (s : ByteArray) (w : World) (hs : s.size ≤ 10000000) :
    Calls Try.prog 8 #[.string s] w (lexGives 33 w (lexL s.data.toList 0)) := by
  have hmax : s.size ≤ maxLen := by unfold maxLen; omega
  have HSK := Lib.hid fun k w (h : k ≤ s.size) => skip_any s k w hmax h
  have HNX := Lib.hid fun k w (h : k < s.size) => next_any s k w hmax h
  have hsl : s.data.toList.length = s.size := by simp
  have HSL := Lib.hid hsl
  obtain ⟨R, hR⟩ : ∃ R, lexL s.data.toList 0 = R := ⟨_, rfl⟩
  rw [hR]
  have HRR := Lib.hid hR
  obtain ⟨i0, hi, hz0, hz1, hz2⟩ := tok_parts info_tok
  have HI := Lib.hid (And.intro hi (And.intro hz0 (And.intro hz1 hz2)))
  clear hR hsl hi hz0 hz1 hz2 hmax
  go_enter Try.func8, Try.ntmps8
  have h00 := HSK.out 0 w (Nat.zero_le _)
  obtain ⟨q0, hq0⟩ : ∃ q, 0 + skipL (s.data.toList.drop 0) = q := ⟨_, rfl⟩
  rw [hq0] at h00
  have HQ0 := Lib.hid hq0
  have H00 := Lib.hid h00
  have hq9 : q0 ≤ s.size := by have := skipL_le _ (s.data.toList.drop 0) (Nat.le_refl _); rw [List.length_drop, HSL.out] at this; omega
  clear hq0 h00
  go_wp2_with fail
  refine (H00.out).mono ?_
  rintro e w1 ⟨rfl, rfl⟩
  go_wp2_with fail
  go_loopw [5, 6] (fun v i wr => ∃ (p q : Nat) (ts : List Tok), q ≤ s.size ∧ ts.length ≤ q ∧ i = .int .i64 q ∧ Hid (p + skipL (s.data.toList.drop p) = q) ∧ Hid (lexTo ts (lexL s.data.toList p) = R) ∧ Hid (Toks 33 w1.heap.size wr v ts) ∧ Below w1.heap.size w1 wr) (fun _ i _ => s.size - (intOf i).toNat)
  case atStart => exact ⟨0, q0, [], hq9, Nat.zero_le _, rfl, HQ0, by rw [Hid, HRR.out]; simp [lexTo], toks_nil _ _ _, Below.refl _ _⟩
  case round =>
    obtain ⟨p, q, ts, hq, htq, rfl, hp, hR, hT, hB⟩ := hrel
    by_cases hlt : q < s.size
    · have HN := Lib.hid (HNX.out q wr hlt)
      cases hn : nextL (s.data.toList.drop q) with
      | none =>
        have hf := lexL_fault hp.out (by rw [HSL.out]; exact hlt) hn
        have HF := Lib.hid (show R = (ts, some q) by rw [← hR.out, hf]; simp [lexTo])
        rw [nextV_none hn] at HN
        have HB := Lib.hid hB
        clear hf hn hp hR hT hB
        go_wp2_with fail
        refine (HN.out).mono ?_
        rintro e w2 ⟨rfl, rfl⟩
        go_wp2
        go_ret3
        exact ⟨HB.out, by rw [HF.out]; rfl⟩
      | some kn =>
        obtain ⟨k, n⟩ := kn
        have hrg := nextL_range hn
        rw [List.length_drop, HSL.out] at hrg
        obtain ⟨hn1, hn2, hk1, hk4⟩ := hrg
        have HNE := Lib.hid (lexL_next hp.out (by rw [HSL.out]; exact hlt) hn)
        rw [nextV_some hn] at HN
        have k0 : ((k : Int) == 0) = false := by simp; omega
        obtain ⟨c, hc⟩ : ∃ c, (s.data.toList.drop q).take n = c := ⟨_, rfl⟩
        have hsli : ∀ w', (Instr.slice 9 (.string s) (some (.int .i64 (q : Int))) (some (.int .i64 ((q : Int) + (n : Int)))) none).run Try.prog w' = .ok (.string ⟨c.toArray⟩) w' := fun w' => by
          rw [slice_at w' s q n rfl (by omega), Lib.extract_eq, Nat.add_sub_cancel_left, hc]
        rw [hc] at HNE
        have HR2 := Lib.hid (show lexTo (ts ++ [⟨k, c, q⟩]) (lexL s.data.toList (q + n)) = R by rw [← hR.out, HNE.out]; exact (lexTo_next ts ⟨k, c, q⟩ _).symm)
        obtain ⟨q2, hq2⟩ : ∃ q2, q + n + skipL (s.data.toList.drop (q + n)) = q2 := ⟨_, rfl⟩
        have hq29 : q2 ≤ s.size := by have := skipL_le _ (s.data.toList.drop (q + n)) (Nat.le_refl _); rw [List.length_drop, HSL.out] at this; omega
        have hqn : q + n ≤ q2 := by omega
        have HSK2 := Lib.hid fun w => HSK.out (q + n) w (by omega)
        rw [hq2] at HSK2
        have HQ2 := Lib.hid hq2
        have HB := Lib.hid hB
        have hB2 := hB.size
        clear hc HNE hp hR hq2 hn hB
        go_wp2_with fail
        refine (HN.out).mono ?_
        rintro e w2 ⟨rfl, rfl⟩
        go_wp2_with (at_builtin; refine wpList_append_lies _ rfl _ _ 22 rfl w1.heap.size 33 i0 _ 3 32 (by kernel_rfl) HI.out.1 HI.out.2.1 HI.out.2.2.1 HI.out.2.2.2 rfl (by decide) _ ts.length (cells3 ts) rfl (toks_later hT.out ((Below.refl _ _).alloc (Nat.le_refl _) _)) ⟨w2.heap.size, 0, none⟩ 1 1 (cells3 [⟨k, c, q⟩]) rfl rfl ?news ?one (by decide) ?max ?bytes ?base _ rfl ?next)
        case news => exact news_tok _ _ _
        case one => intro v hv; simp [cells3] at hv; rcases hv with rfl | rfl | rfl <;> rfl
        case max => unfold maxLen; omega
        case bytes => omega
        case base => simp; omega
        case next =>
          intro g cap3 w3 hown hgrow hat _
          have HT2 := Lib.hid (toks_step hown)
          have HB2 := Lib.hid ((HB.out.alloc hB2 _).grown hgrow (by simp; omega) (toks_above hT.out))
          clear hown hgrow hat
          go_wp2_with fail
          refine (HSK2.out _).mono ?_
          rintro e w4 ⟨rfl, rfl⟩
          go_wp2_with fail
          go_roundw
          case rel => exact ⟨q + n, q2, ts ++ [⟨k, c, q⟩], hq29, by simp; omega, rfl, HQ2.out, HR2, HT2, HB2.out⟩
          case measure => simp [intOf]; omega
    · have : q = s.size := by omega
      subst this
      have hf := lexL_end (l := s.data.toList) (p := p) (by rw [HSL.out, hp.out]; omega)
      have HF := Lib.hid (show R = (ts, none) by rw [← hR.out, hf]; simp [lexTo])
      have HB := Lib.hid hB
      have HT := Lib.hid hT.out
      clear hf hp hR hT hB
      go_wp2
      go_ret3
      exact ⟨HB.out, by rw [HF.out]; exact ⟨_, HT.out, rfl⟩⟩
end Go.Proofs.Ytmflomepdmmodaa
