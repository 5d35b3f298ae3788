/-
  The program's table of locks: whether one may take what it wants.
-/
import Derived.Test.YtnlpbfpmnjplhaaLckTab
import Derived.Deep.DeepCutAuto
import Derived.LoopTactic
namespace Go.Proofs.Ytnlpbfpmnjplhaa.LckW
open Go.RowKit WideW IntW CovW SlW Go.Maps
set_option linter.all false

section
variable {w w' : World} {tb turn n : Nat} {mt mh : Option Nat} {whole : Bool} {g : Int → Option Value}
set_option maxRecDepth 100000 in
set_option maxHeartbeats 2000000 in
theorem indexF_any (b : TbB w tb mt mh whole turn) (h : MapAt famI w mh n g) (hg : ∀ i v, g i = some v → ∃ p, v = txV p) (u : Value) (ids : List Int) (hu : RdI w w.heap.size u ids) (hw : ∀ i ∈ ids, (Lit.int .i64 i).wf = true) :
    Calls Try.prog 36 #[u, .func (.func 31) #[.pointer (some ⟨tb, 0, none⟩)] #[]] w fun e w' => ∃ r : Int, e = .returned (.int .i64 r) ∧ (0 ≤ r ↔ ∃ i ∈ ids, g i ≠ none) ∧ Below w.heap.size w w' := by
  obtain ⟨A, c, rfl, hl, hc⟩ := hu
  obtain ⟨N, hN⟩ : ∃ N, ids.length = N := ⟨_, rfl⟩
  have HC : Hid (∀ i, i < N → ∃ bb off, A = some ⟨bb, off, none⟩ ∧ bb < w.heap.size ∧ w.cell? ⟨bb, off + i, none⟩ = some (.int .i64 (it ids i))) := Lib.hid (fun i hi => by
    obtain ⟨bb, off, e, hb, hk⟩ := hc (by omega)
    exact ⟨bb, off, e, hb, hk i (by omega)⟩)
  have HM : Hid (∀ i, i < N → it ids i ∈ ids) := Lib.hid (fun i hi => by
    have e : it ids i = ids[i] := by simp [it, show i < ids.length by omega]
    rw [e]; exact List.getElem_mem _)
  have HW := Lib.hid hw
  have HE : Hid (∀ i ∈ ids, ∃ k, k < N ∧ it ids k = i) := Lib.hid (fun i hi => by
    obtain ⟨k, hk, rfl⟩ := List.getElem_of_mem hi
    exact ⟨k, by omega, by simp [it, hk]⟩)
  rw [hN] at hl ⊢
  have PH : Hid (∀ W, Below w.heap.size w W → ∀ i ∈ ids, ∀ r : Bool, r = (g i).isSome → Calls Try.prog 31 #[.pointer (some ⟨tb, 0, none⟩), .int .i64 i] W fun e w' => e = .returned (.bool r) ∧ Below W.heap.size W w') :=
    Lib.hid (fun W hb i hi r hr => held_any (b.keep hb) (h.keep hb) hg i (hw i hi) r hr)
  clear hc hN hw b h hg
  go_enter Try.func36, Try.ntmps36
  go_wp2_with fail
  go_loopw [8] (fun i W => ∃ k : Nat, k ≤ N ∧ i = .int .i64 k ∧ Hid (∀ j, j < k → g (it ids j) = none) ∧ Below w.heap.size w W) (fun i _ => N - (Go.RowKit.intOf i).toNat)
  case atStart => exact ⟨0, Nat.zero_le _, rfl, Lib.hid (fun j h => absurd h (by omega)), B0⟩
  case round =>
    obtain ⟨k, hk, rfl, HK, hB⟩ := hrel
    by_cases hlt : k < N
    · obtain ⟨bb, off, rfl, hb, x0⟩ := HC.out k hlt
      replace x0 := (hB.cell (p := ⟨bb, off + k, none⟩) hb).trans x0
      obtain ⟨r, hr⟩ : ∃ r, r = (g (it ids k)).isSome := ⟨_, rfl⟩
      have PP := PH.out wr hB (it ids k) (HM.out k hlt) r hr
      have HR := Lib.hid hr
      have hltI : (k : Int) < (N : Int) := by omega
      clear hr
      go_wp2_with fail
      refine PP.mono ?_
      rintro _ W2 ⟨rfl, b2⟩
      cases r
      case true =>
        go_wp2_with fail
        go_ret
        refine ⟨(k : Int), rfl, ⟨fun _ => ⟨it ids k, HM.out k hlt, ?_⟩, fun _ => by omega⟩, Bt hB b2⟩
        intro e
        have := HR.out
        rw [e] at this; cases this
      case false =>
        go_wp2_with fail
        go_roundw
        case rel => exact ⟨k + 1, by omega, by go_num, Lib.hid (fun j hj => by
          rcases Nat.lt_succ_iff_lt_or_eq.1 hj with hj | rfl
          · exact HK.out j hj
          · cases e : g (it ids j) with
            | none => rfl
            | some v => have := HR.out; rw [e] at this; cases this), Bt hB b2⟩
        case measure => simp [Go.RowKit.intOf]; omega
    · obtain rfl : k = N := by omega
      have hltI : ¬ (k : Int) < (k : Int) := by omega
      go_wp2_with fail
      go_ret
      refine ⟨-1, rfl, ⟨fun e => absurd e (by omega), ?_⟩, hB⟩
      rintro ⟨i, hi, e⟩
      obtain ⟨j, hj, rfl⟩ := HE.out i hi
      exact absurd (HK.out j hj) e
set_option maxRecDepth 100000 in
set_option maxHeartbeats 1000000 in
theorem containsF_any (b : TbB w tb mt mh whole turn) (h : MapAt famI w mh n g) (hg : ∀ i v, g i = some v → ∃ p, v = txV p) (u : Value) (ids : List Int) (hu : RdI w w.heap.size u ids) (hw : ∀ i ∈ ids, (Lit.int .i64 i).wf = true) (r : Bool) (hr : r = true ↔ ∃ i ∈ ids, g i ≠ none) :
    Calls Try.prog 30 #[u, .func (.func 31) #[.pointer (some ⟨tb, 0, none⟩)] #[]] w fun e w' => e = .returned (.bool r) ∧ Below w.heap.size w w' := by
  have PP := indexF_any b h hg u ids hu hw
  have HR := Lib.hid hr
  obtain ⟨A, c, rfl, -⟩ := hu
  clear b h hg hw hr
  go_enter Try.func30, Try.ntmps30
  go_wp2_with fail
  refine PP.mono ?_
  rintro _ W2 ⟨q, rfl, hq, b2⟩
  have HQ := Lib.hid hq
  clear hq PP
  by_cases e : 0 ≤ q
  · go_wp2_with fail
    go_ret
    exact ⟨by rw [show r = true from HR.out.2 (HQ.out.1 e)] <;> simp_all, b2⟩
  · go_wp2_with fail
    go_ret
    refine ⟨?_, b2⟩
    have : r = false := by
      cases hr : r with
      | false => rfl
      | true => have := HQ.out.2 (HR.out.1 hr); omega
    rw [this]; simp_all
/-- What a lookup of a transaction answers. -/
theorem holdForm {f : Int × Int → Option Value} (hf : ∀ p v, f p = some v → ∃ (t : Nat) (A : Option Addr) (l c : Nat), v = .agg #[.int .i64 (t : Int), .slice A l c]) (p : Int × Int) : ∃ (t : Nat) (A : Option Addr) (l c : Nat), (f p).getD (.agg #[.int .i64 0, .slice none 0 0]) = .agg #[.int .i64 (t : Int), .slice A l c] := by
  cases e : f p with
  | none => exact ⟨0, none, 0, 0, rfl⟩
  | some v => obtain ⟨t, A, l, c, rfl⟩ := hf p v e; exact ⟨t, A, l, c, rfl⟩
theorem inrow_form {w : World} {base : Nat} {u : Value} {l : List Int} (h : InRow w base u l) : ∃ A c, u = .slice A l.length c := h.slice
theorem Lt.form {T : List En} (h : Lt w tb T turn mt mh whole) : ∃ f g, TbB w tb mt mh whole turn ∧ MapAt famT w mt turn f ∧ MapAt famI w mh (capI turn) g ∧ Pu T turn whole f g ∧
    (∀ p v, f p = some v → ∃ (t : Nat) (A : Option Addr) (l c : Nat), v = .agg #[.int .i64 (t : Int), .slice A l c]) ∧ (∀ i v, g i = some v → ∃ p, v = txV p) ∧ (∀ x ∈ T, ∃ base, InRow w base x.u x.once) ∧ (mt = none ∨ mt ≠ mh) := by
  obtain ⟨f, g, b, a1, a2, p, r, ne⟩ := h
  refine ⟨f, g, b, a1, a2, p, fun q v hv => ?_, fun i v hv => ?_, r, ne⟩
  · obtain ⟨x, hx, rfl⟩ := p.only q v hv
    have e := p.there x hx
    rw [hv] at e
    cases e
    obtain ⟨base, hr⟩ := r x hx
    obtain ⟨A, c, e⟩ := hr.slice
    exact ⟨x.turn, A, _, c, by unfold En.v; rw [e]⟩
  · obtain ⟨x, hx, hi⟩ := p.heldby i v hv
    have e := p.holds x hx i hi
    rw [hv] at e
    cases e
    exact ⟨_, rfl⟩
set_option maxRecDepth 100000 in
set_option maxHeartbeats 2000000 in
theorem mayTake_any {T : List En} (h : Lt w tb T turn mt mh whole) (a b : Int) (u : Value) (ids : List Int) (al : Bool) (hk : txOk (a, b)) (hu : RdI w w.heap.size u ids) (hw : ∀ i ∈ ids, (Lit.int .i64 i).wf = true) (r : Bool) (hr : r = true ↔ MayTake (hos T) ⟨a, b, ids, al⟩) :
    Calls Try.prog 22 #[.pointer (some ⟨tb, 0, none⟩), .agg #[.int .i64 a, .int .i64 b], u, .bool al] w fun e w' => e = .returned (.bool r) ∧ Below w.heap.size w w' := by
  obtain ⟨f, g, B, a1, a2, p, hf, hg, -⟩ := h.form
  obtain ⟨c0, c1, c2, c3, fz⟩ := B.cells
  cases al
  case true =>
    obtain ⟨c, hc, -, h0⟩ := a1.len Try.underlying49
    have HC := Lib.hid hc
    have HR : Hid (r = true ↔ c = 0) := Lib.hid (by rw [hr, mayAll T _ rfl, p.empty, h0])
    have AL : ∀ m, mt = some m → m < w.heap.size := fun m e => a1.lt e
    obtain ⟨A, cc, rfl, -⟩ := hu
    clear hr h0 hc a1 a2 p hf hg h hw
    have HB := Lib.hid B
    clear B c0 c1 c2 c3 fz
    go_enter Try.func22, Try.ntmps22
    go_upto_region 2 with fail
    have b1 : Below w.heap.size w (w.alloc (.cells #[.int .i64 a, .int .i64 b] 30)) := Ba B0
    have hl : ∀ ty, (Builtin.len_ #[49] ty #[.map mt]).run Try.prog (w.alloc (.cells #[.int .i64 a, .int .i64 b] 30)) = .ok (.int .i64 (c : Int)) (w.alloc (.cells #[.int .i64 a, .int .i64 b] 30)) := fun ty => HC.out _ ty (fun m e => Below.heap_alloc _ _ m (AL m e))
    obtain ⟨c0, -⟩ := (HB.out.keep b1).cells
    obtain ⟨x, hx⟩ : ∃ x, w.heap.size = x := ⟨_, rfl⟩
    rw [hx]
    generalize w.alloc (.cells #[.int .i64 a, .int .i64 b] 30) = w1 at *
    clear AL hx
    go_wp2_with (at_len; refine len_wp _ rfl rfl hl rfl ?_)
    go_ret
    exact ⟨ret_bool (bool_eq HR.out (by simp)), b1⟩
  case false =>
    obtain ⟨tt, ta, tl, tc, ht⟩ := holdForm hf (a, b)
    have L := fun W (hb : Below w.heap.size w W) => ((a1.keep hb).look Try.underlying49 zeroHold hk).1
    rw [ht] at L
    obtain ⟨is, his⟩ : ∃ is, (f (a, b)).isSome = is := ⟨_, rfl⟩
    rw [his] at L
    obtain ⟨z, hz⟩ := has_bool (∃ i ∈ ids, g i ≠ none)
    have PC := fun W (hb : Below w.heap.size w W) => containsF_any (B.keep hb) (a2.keep hb) hg u ids (hu.on hb) hw z hz.out
    have HR : Hid (r = true ↔ is = false ∧ whole = false ∧ z = false) := Lib.hid (by
      rw [hr, p.may _ rfl, ← his]
      constructor
      · rintro ⟨h1, h2, h3⟩
        refine ⟨by rw [h1]; rfl, h2, ?_⟩
        cases e : z with
        | false => rfl
        | true => obtain ⟨i, hi, k⟩ := hz.out.1 e; exact absurd (h3 i hi) k
      · rintro ⟨h1, h2, h3⟩
        refine ⟨?_, h2, fun i hi => ?_⟩
        · cases e : f (a, b) with
          | none => rfl
          | some v => rw [e] at h1; cases h1
        · cases e : g i with
          | none => rfl
          | some v => have := hz.out.2 ⟨i, hi, by rw [e]; simp⟩; rw [h3] at this; cases this)
    obtain ⟨A, cc, rfl, -⟩ := hu
    have HL := Lib.hid L
    have HP := Lib.hid PC
    have HB := Lib.hid B
    clear hr ht L a1 a2 p hf hg h hw his hz B PC c0 c1 c2 c3 fz
    go_enter Try.func22, Try.ntmps22
    go_upto_region 3 with fail
    have b1 : Below w.heap.size w (w.alloc (.cells #[.int .i64 a, .int .i64 b] 30)) := Ba B0
    have X := Blk.new' w 30 #[.int .i64 a, .int .i64 b] rfl
    obtain ⟨x, hx⟩ : ∃ x, w.heap.size = x := ⟨_, rfl⟩
    rw [hx] at X ⊢
    generalize w.alloc (.cells #[.int .i64 a, .int .i64 b] 30) = w1 at *
    obtain ⟨w2, hw2⟩ : ∃ w2, w1.alloc (.cells #[.int .i64 0, .slice none 0 0] 54) = w2 := ⟨_, rfl⟩
    obtain ⟨w3, hw3⟩ : ∃ w3, w1.alloc (.cells #[.int .i64 (tt : Int), .slice ta tl tc] 54) = w3 := ⟨_, rfl⟩
    have b2 : Below w1.heap.size w1 w2 := by rw [← hw2]; exact Ba B0
    have X2 := X.keep b2
    obtain ⟨c0, -⟩ := (HB.out.keep b1).cells
    obtain ⟨d0, -⟩ := ((HB.out.keep b1).keep b2).cells
    have L1 : (Instr.lookup 49 (.map mt) (.agg #[.int .i64 a, .int .i64 b]) true).run Try.prog w1.drew = .ok (.tuple #[.agg #[.int .i64 (tt : Int), .slice ta tl tc], .bool is]) w1.drew := HL.out _ (Bd b1)
    have L2 : (Instr.lookup 49 (.map mt) (.agg #[.int .i64 a, .int .i64 b]) true).run Try.prog w2.drew = .ok (.tuple #[.agg #[.int .i64 (tt : Int), .slice ta tl tc], .bool is]) w2.drew := HL.out _ (Bd (Bt b1 b2))
    have x0 : w1.cell? ⟨x, 0, none⟩ = some (.int .i64 a) := by rw [X.cell]; rfl
    have x1 : w1.cell? ⟨x, 1, none⟩ = some (.int .i64 b) := by rw [X.cell]; rfl
    have y0 : w2.cell? ⟨x, 0, none⟩ = some (.int .i64 a) := by rw [X2.cell]; rfl
    have y1 : w2.cell? ⟨x, 1, none⟩ = some (.int .i64 b) := by rw [X2.cell]; rfl
    rw [← hw2] at L2 d0 y0 y1
    clear hw2 hw3 X X2 b2 hx
    go_region
    all_goals
      have b3 : Below w.heap.size w (w1.alloc (.cells #[.int .i64 (tt : Int), .slice ta tl tc] 54)).drew := Bd (Ba b1)
      clear c0 d0 L1 L2 x0 x1 y0 y1
      generalize (w1.alloc (.cells #[.int .i64 (tt : Int), .slice ta tl tc] 54)).drew = w4 at *
      obtain ⟨-, -, e2, -, -⟩ := (HB.out.keep b3).cells
      cases is
      case true =>
        go_wp2_with fail
        go_ret
        refine ⟨?_, b3⟩
        have e : r = false := by
          cases hr : r with
          | false => rfl
          | true => have := (HR.out.1 hr).1; cases this
        rw [e]; rfl
      case false =>
        cases whole
        case true =>
          go_wp2_with fail
          go_ret
          refine ⟨?_, b3⟩
          have e : r = false := by
            cases hr : r with
            | false => rfl
            | true => have := (HR.out.1 hr).2.1; cases this
          rw [e]; rfl
        case false =>
          have PP := HP.out w4 b3
          go_wp2_with fail
          refine PP.mono ?_
          rintro _ w5 ⟨rfl, b5⟩
          clear PP
          go_wp2_with fail
          go_ret
          refine ⟨ret_bool (bool_eq HR.out ?_), Bt b3 b5⟩
          cases z <;> simp
end
end Go.Proofs.Ytnlpbfpmnjplhaa.LckW
