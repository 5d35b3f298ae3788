/-
  No id has two holders, who holds everything is alone, and as many are there as Takes were true and not freed: the law LockOnce returns true.
-/
import Derived.Test.YtnlpbfpmnjplhaaRows
import Derived.Test.YtnlpbfpmnjplhaaLckAwake
import Derived.Test.YtnlpbfpmnjplhaaLckOpen
import Derived.Test.YtnlpbfpmnjplhaaLckOnce
import Derived.WalkKit
import Derived.BigQuiet
import Derived.Deep.DeepCutAuto
import Derived.ProofKit
import Derived.OpenShut
import Derived.ShutString
import Derived.ChangeOld
import Derived.Below
import Derived.Lib.SmallJoins
import Derived.SizedLaws
namespace Go.Proofs.Ytnlpbfpmnjplhaa.lockOnce
open Go.ChangeShapes Go.WideShapes Go.ChangeAt Go.RowKit Go.Joins
open Go.ChangeMaps (open_string shut_string)
set_option linter.all false

theorem own : ownKnob Try.prog.godebug = none := by kernel_rfl
theorem laidOut : laidOutB Try.prog = true := by kernel_rfl

open WideW IntW CovW SlW LckW
theorem val_bool {a b : Bool} (h : a = b) : Value.bool a = .bool b := by rw [h]
theorem say_and {r : Bool} {P Q : Prop} [Decidable P] [Decidable Q] (h : Hid (r = true ↔ P ∧ Q)) : (decide P && decide Q) = r := by
  rw [Bool.eq_iff_iff, h.out]; simp
/-- What the law keeps: who took each id last, who took everything. -/
structure OnceF (L : List Ho) (ow : Nat → Int × Int) (ln : Int × Int) : Prop where
  own : ∀ k, k < 8 → 0 < (ow k).2 → ∃ x ∈ L, (x.node, x.seq) = ow k ∧ (k : Int) ∈ x.ids
  lone : 0 < ln.2 → ∃ x ∈ L, x.all = true ∧ (x.node, x.seq) = ln
theorem OnceF.zero : OnceF [] (fun _ => (0, 0)) (0, 0) := ⟨fun k _ h => absurd h (by decide), fun h => absurd h (by decide)⟩
theorem mem_free {L : List Ho} {n s : Int} {x : Ho} (h : x ∈ L) (hx : (x.node, x.seq) ≠ (n, s)) : x ∈ freeL L n s := by
  refine List.mem_filter.2 ⟨h, ?_⟩
  by_cases h1 : x.node = n <;> by_cases h2 : x.seq = s <;> simp [h1, h2]
  exact hx (by rw [h1, h2])
theorem OnceF.free {L : List Ho} {ow ow' : Nat → Int × Int} {ln : Int × Int} (h : OnceF L ow ln) (n s : Int) (e : ∀ k, k < 8 → ow' k = if ow k = (n, s) then (0, 0) else ow k) : OnceF (freeL L n s) ow' (if ln = (n, s) then (0, 0) else ln) := by
  refine ⟨fun k hk h0 => ?_, fun h0 => ?_⟩
  · rw [e k hk] at h0 ⊢
    by_cases c : ow k = (n, s)
    · rw [if_pos c] at h0; exact absurd h0 (by decide)
    · rw [if_neg c] at h0 ⊢
      obtain ⟨x, h1, h2, h3⟩ := h.own k hk h0
      exact ⟨x, mem_free h1 (by rw [h2]; exact c), h2, h3⟩
  · by_cases c : ln = (n, s)
    · rw [if_pos c] at h0; exact absurd h0 (by decide)
    · rw [if_neg c] at h0 ⊢
      obtain ⟨x, h1, h2, h3⟩ := h.lone h0
      exact ⟨x, mem_free h1 (by rw [h3]; exact c), h2, h3⟩
theorem OnceF.more {L : List Ho} {ow : Nat → Int × Int} {ln : Int × Int} (h : OnceF L ow ln) (t : Ho) : OnceF (L ++ [t]) ow ln := by
  refine ⟨fun k hk h0 => ?_, fun h0 => ?_⟩
  · obtain ⟨x, h1, h2⟩ := h.own k hk h0
    exact ⟨x, List.mem_append.2 (.inl h1), h2⟩
  · obtain ⟨x, h1, h2⟩ := h.lone h0
    exact ⟨x, List.mem_append.2 (.inl h1), h2⟩
theorem OnceF.no {L : List Ho} {ow : Nat → Int × Int} {ln : Int × Int} {t : Ho} (h : OnceF L ow ln) (m : MayTake L t) : ¬ 0 < ln.2 := fun h0 => by
  obtain ⟨x, h1, h2, -⟩ := h.lone h0
  exact m x h1 (.inr (.inl h2))
theorem all_alone {L : List Ho} {t : Ho} (m : MayTake L t) (ha : t.all = true) : L = [] := by
  rcases L with _ | ⟨x, L⟩
  · rfl
  · exact absurd (.inr (.inr (.inl ha))) (m x (by simp))
theorem OnceF.alone {L : List Ho} {ow : Nat → Int × Int} {ln : Int × Int} {t : Ho} (h : OnceF (L ++ [t]) ow ln) (ha : t.all = true) : OnceF (L ++ [t]) ow (t.node, t.seq) :=
  ⟨h.own, fun _ => ⟨t, by simp, ha, rfl⟩⟩
theorem OnceF.ok {L : List Ho} {ow : Nat → Int × Int} {ln : Int × Int} {t : Ho} {k : Nat} (h : OnceF (L ++ [t]) ow ln) (m : MayTake L t) (hk : (k : Int) ∈ t.ids) (h8 : k < 8) (h0 : 0 < (ow k).2) : ow k = (t.node, t.seq) := by
  obtain ⟨x, h1, h2, h3⟩ := h.own k h8 h0
  rcases List.mem_append.1 h1 with h1 | h1
  · exact absurd (.inr (.inr (.inr ⟨_, hk, h3⟩))) (m x h1)
  · obtain rfl := List.mem_singleton.1 h1
    exact h2.symm
theorem OnceF.set {L : List Ho} {ow : Nat → Int × Int} {ln : Int × Int} {t : Ho} {k : Nat} (h : OnceF (L ++ [t]) ow ln) (hk : (k : Int) ∈ t.ids) : OnceF (L ++ [t]) (fun j => if j = k then (t.node, t.seq) else ow j) ln := by
  refine ⟨fun j hj h0 => ?_, h.lone⟩
  by_cases c : j = k
  · subst c
    exact ⟨t, by simp, by simp, hk⟩
  · simp only [if_neg c] at h0 ⊢
    exact h.own j hj h0
theorem no_b {z : Bool} {P : Prop} (h : z = true ↔ P) (n : ¬ P) : z = false := by
  cases z
  · rfl
  · exact absurd (h.1 rfl) n
theorem once_no {o2 ow : Nat → Int × Int} {q : Nat} {M S : Int} (h : ∀ k, k < 8 → o2 k = if k < q ∧ ow k = (M, S) then (0, 0) else ow k) (hq : ow q ≠ (M, S)) : ∀ k, k < 8 → o2 k = if k < q + 1 ∧ ow k = (M, S) then (0, 0) else ow k := fun k hk => by
  rw [h k hk]
  by_cases c : k = q
  · subst c
    rw [if_neg (fun h => hq h.2), if_neg (fun h => hq h.2)]
  · by_cases c2 : k < q ∧ ow k = (M, S)
    · rw [if_pos c2, if_pos ⟨by omega, c2.2⟩]
    · rw [if_neg c2, if_neg (fun h => c2 ⟨by omega, h.2⟩)]
theorem once_yes {o2 ow : Nat → Int × Int} {q : Nat} {M S : Int} (h : ∀ k, k < 8 → o2 k = if k < q ∧ ow k = (M, S) then (0, 0) else ow k) (hq : ow q = (M, S)) : ∀ k, k < 8 → (fun j => if j = q then ((0 : Int), (0 : Int)) else o2 j) k = if k < q + 1 ∧ ow k = (M, S) then (0, 0) else ow k := fun k hk => by
  by_cases c : k = q
  · subst c
    simp only [if_true]
    rw [if_pos ⟨by omega, hq⟩]
  · simp only [if_neg c]
    rw [h k hk]
    by_cases c2 : k < q ∧ ow k = (M, S)
    · rw [if_pos c2, if_pos ⟨by omega, c2.2⟩]
    · rw [if_neg c2, if_neg (fun h => c2 ⟨by omega, h.2⟩)]
theorem tx_wf (x y : Int) : txOk (bits BinOp.and IntKind.i64 x 3, wrap64 (1 + bits BinOp.and IntKind.i64 y 7)) := ⟨by unfold bits; exact wf_wrap _ _, wrap64_wf _⟩

set_option maxRecDepth 100000 in
set_option maxHeartbeats 8000000 in
theorem walk (v0 : Value) (r0 : List LckW.ActL) (w : World) (hr0 : LckW.RdL w w.heap.size v0 r0) (f0 : LckW.FitsL r0) :
    Calls Try.prog 4 #[v0] w fun e w' => e = .returned (.bool true) ∧ Below w.heap.size w w' := by
  obtain ⟨A, c, rfl, hl, hA⟩ := hr0
  obtain ⟨N, hN⟩ : ∃ N, r0.length = N := ⟨_, rfl⟩
  rw [hN] at hl hA ⊢
  have FA : Hid (∀ i, i < N → IntW.Fits (atL r0 i).ids ∧ (atL r0 i).ids.length * 8 ≤ 140737488351232) := Lib.hid (fun i hi => ⟨(f0 i (by rw [hN]; exact hi)).1, (f0 i (by rw [hN]; exact hi)).2.2.2⟩)
  have HL := Lib.hid hl
  clear hN hl f0
  go_enter Try.func4, Try.ntmps4
  go_wp2_with fail
  refine (awake_any _).mono ?_
  rintro _ w0 ⟨rfl, hb0⟩
  go_wp2_with fail
  refine (new_lf w w0 (fun _ => False) (fun k h => h.elim) hb0).mono ?_
  rintro _ w1 ⟨tb, rfl, T, -⟩
  clear hb0
  go_upto_region 6 with fail
  have D := st_new T
  obtain ⟨io, hio⟩ : ∃ g, w1.heap.size = g := ⟨_, rfl⟩
  rw [hio] at D
  try rw [hio]
  generalize (w1.alloc (.cells #[.int .i64 0, .int .i64 0, .int .i64 0, .int .i64 0, .int .i64 0, .int .i64 0, .int .i64 0, .int .i64 0, .int .i64 0, .int .i64 0, .int .i64 0, .int .i64 0, .int .i64 0, .int .i64 0, .int .i64 0, .int .i64 0] 46)).alloc (.cells #[.int .i64 0, .int .i64 0] 30) = w2 at *
  obtain ⟨il, hil⟩ : ∃ g, io + 1 = g := ⟨_, rfl⟩
  rw [hil] at D ⊢
  clear T hio hil
  go_wp2_with fail
  go_loopw [6, 7] (fun mv i W => ∃ (j n : Nat) (L : List Ho) (ow : Nat → Int × Int) (l1 l2 : Int), j ≤ N ∧ i = .int .i64 j ∧ mv = .int .i64 n ∧ St w W (fun _ => False) tb io il j L ow l1 l2 ∧ Hid (OnceF L ow (l1, l2) ∧ L.length ≤ j ∧ L.length = n)) (fun _ i _ => N - (Go.RowKit.intOf i).toNat)
  case atStart => exact ⟨0, 0, [], _, 0, 0, Nat.zero_le _, rfl, rfl, D, Lib.hid ⟨OnceF.zero, Nat.le_refl _, rfl⟩⟩
  case round =>
    clear D
    obtain ⟨j, n, L, ow, l1, l2, hj, rfl, rfl, D, LL⟩ := hrel
    obtain ⟨go, hgo⟩ := has_bool ((j : Int) < (N : Int) ∧ (j : Int) < 60)
    go_upto_region 8 with fail
    go_cut [22] (fun v wx => v = .bool go ∧ wx = wr)
    case first =>
      by_cases qI : (j : Int) < (N : Int)
      · go_wp2_with fail
        all_goals go_meet
        all_goals exact ⟨val_bool (by rw [← say_and hgo]; simp; try omega), rfl⟩
      · go_wp2_with fail
        all_goals go_meet
        all_goals exact ⟨val_bool (by rw [← say_and hgo]; simp; try omega), rfl⟩
    case rest =>
    obtain ⟨rfl, rfl⟩ := hcut
    cases go
    case false =>
      have D8 := D.below
      clear hA FA HL hgo LL D
      go_wp2_with fail
      go_ret
      exact ⟨rfl, D8⟩
    case true =>
    obtain ⟨hltI, h100⟩ := hgo.out.1 rfl
    have hlt : j < N := by omega
    have h60 : j < 60 := by omega
    obtain ⟨bA, off, rfl, hb, hcell⟩ := hA (by omega)
    have x := hcell j hlt
    have fk := FA.out j hlt
    obtain ⟨a, ha⟩ : ∃ a, atL r0 j = a := ⟨_, rfl⟩
    rw [ha] at x fk
    have HK := Lib.hid fk
    have hDb := D.below
    obtain ⟨u, ⟨x0, x1, x2, x3, x4⟩, ru, -⟩ := x
    replace x0 := (hDb.cell (p := ⟨bA, off + j * 5, none⟩) hb).trans x0
    replace x1 := (hDb.cell (p := ⟨bA, off + j * 5 + 1, none⟩) hb).trans x1
    replace x2 := (hDb.cell (p := ⟨bA, off + j * 5 + 2, none⟩) hb).trans x2
    replace x3 := (hDb.cell (p := ⟨bA, off + j * 5 + 3, none⟩) hb).trans x3
    replace x4 := (hDb.cell (p := ⟨bA, off + j * 5 + 4, none⟩) hb).trans x4
    obtain ⟨A1, c1, rfl, -⟩ := id ru
    obtain ⟨n1, hn1⟩ : ∃ n1, a.ids.length = n1 := ⟨_, rfl⟩
    rw [hn1] at x3 ru HK
    have HN1 := Lib.hid hn1
    have RV : Hid (∀ W, Below w.heap.size w W → RdI W W.heap.size (.slice A1 n1 c1) a.ids) := Lib.hid (fun W b => (ru.below b).more b.size)
    have RU := Lib.hid ru
    clear hcell ha hgo fk hn1 ru hDb
    go_upto_region 11 with fail
    have B5 : Below wc.heap.size wc (wc.alloc (.cells #[.int .i64 a.kind, .int .i64 a.node, .int .i64 a.seq, .slice A1 n1 c1, .bool a.all] 33)) := Ba B0
    have D5 := (D.hold B5).less (Q' := fun k => k = wc.heap.size) (fun k e => by subst e; exact ⟨Nat.le_refl _, by simp⟩)
    obtain ⟨g, hg⟩ : ∃ g, g = wc.heap.size := ⟨_, rfl⟩
    have Q5 : Blk (wc.alloc (.cells #[.int .i64 a.kind, .int .i64 a.node, .int .i64 a.seq, .slice A1 n1 c1, .bool a.all] 33)) g 33 #[.int .i64 a.kind, .int .i64 a.node, .int .i64 a.seq, .slice A1 n1 c1, .bool a.all] := Blk.new' _ _ _ hg
    rw [← hg] at D5 ⊢
    clear D x0 x1 x2 x3 x4 hg B5
    generalize (wc.alloc (.cells #[.int .i64 a.kind, .int .i64 a.node, .int .i64 a.seq, .slice A1 n1 c1, .bool a.all] 33)) = W5 at *
    have y1 : W5.cell? ⟨g, 1, none⟩ = some (.int .i64 a.node) := by rw [Q5.cell]; rfl
    have y2 : W5.cell? ⟨g, 2, none⟩ = some (.int .i64 a.seq) := by rw [Q5.cell]; rfl
    have fg := fun i => Q5.frozen i
    have fg1 := fg 1
    have fg2 := fg 2
    have SG := fun (u v : Value) => Lib.hid (And.intro ((D5.setG (g := g) rfl 2 u).setG (g := g) rfl 1 v) ((Q5.set_ 2 u).set_ 1 v))
    clear fg D5 Q5
    go_upto_region 13 with fail
    have HTX := Lib.hid (tx_wf a.node a.seq)
    generalize wrap64 (1 + bits BinOp.and IntKind.i64 a.seq 7) = S at *
    generalize bits BinOp.and IntKind.i64 a.node 3 = M at *
    obtain ⟨D6, Q6'⟩ := (SG (.int .i64 S) (.int .i64 M)).out
    have Q6 : Blk ((W5.setCell ⟨g, 2, none⟩ (.int .i64 S)).setCell ⟨g, 1, none⟩ (.int .i64 M)) g 33 #[.int .i64 a.kind, .int .i64 M, .int .i64 S, .slice A1 n1 c1, .bool a.all] := Q6'
    clear Q6' SG y1 y2 fg1 fg2
    generalize (W5.setCell ⟨g, 2, none⟩ (.int .i64 S)).setCell ⟨g, 1, none⟩ (.int .i64 M) = W6 at *
    have y0 : W6.cell? ⟨g, 0, none⟩ = some (.int .i64 a.kind) := by rw [Q6.cell]; rfl
    have z1 : W6.cell? ⟨g, 1, none⟩ = some (.int .i64 M) := by rw [Q6.cell]; rfl
    have z2 : W6.cell? ⟨g, 2, none⟩ = some (.int .i64 S) := by rw [Q6.cell]; rfl
    by_cases h5 : 5 ≤ a.kind
    · have PP := st_free D6 M S HTX.out
      clear D6
      go_wp2_with fail
      refine PP.mono ?_
      rintro _ W7 ⟨rfl, D7, F7⟩
      have Q7 := F7.blk Q6 (fun e => e rfl)
      clear PP F7 Q6 y0 z1 z2
      go_wp2_with fail
      go_loopw [9] (fun i W => ∃ (q : Nat) (o2 : Nat → Int × Int), q ≤ 8 ∧ i = .int .i64 q ∧ St w W (fun k => k = g) tb io il j (freeL L M S) o2 l1 l2 ∧ Blk W g 33 #[.int .i64 a.kind, .int .i64 M, .int .i64 S, .slice A1 n1 c1, .bool a.all] ∧ Hid (∀ k, k < 8 → o2 k = if k < q ∧ ow k = (M, S) then (0, 0) else ow k)) (fun i _ => 8 - (Go.RowKit.intOf i).toNat)
      case atStart => exact ⟨0, ow, by omega, rfl, D7, Q7, Lib.hid (fun k _ => by rw [if_neg (by omega)])⟩
      case round =>
        clear D7 Q7
        obtain ⟨q, o2, hq, rfl, D, Q, HO⟩ := hrel
        by_cases h8 : q < 8
        · have h8I : (q : Int) < 8 := by omega
          have HOq : Hid (o2 q = ow q) := Lib.hid (by rw [HO.out q h8, if_neg (by omega)])
          obtain ⟨p1, p2, ff⟩ := D.own h8
          obtain ⟨⟨v1, v2⟩, hv⟩ : ∃ v, o2 q = v := ⟨_, rfl⟩
          rw [hv] at p1 p2
          have HV : Hid (ow q = (v1, v2)) := Lib.hid (by rw [← HOq.out, hv])
          dsimp only at p1 p2
          have z1 : wr.cell? ⟨g, 1, none⟩ = some (.int .i64 M) := by rw [Q.cell]; rfl
          have z2 : wr.cell? ⟨g, 2, none⟩ = some (.int .i64 S) := by rw [Q.cell]; rfl
          obtain ⟨e, he⟩ := has_bool (v1 = M ∧ v2 = S)
          clear hv ff HOq
          go_upto_region 18 with fail
          go_cut [58] (fun s wx => s = .bool e ∧ wx = wr.drew)
          case first =>
            clear HV HO
            by_cases e0 : v1 = M
            case neg =>
              obtain rfl : e = false := no_b he.out (fun h => e0 h.1)
              go_region
              all_goals go_wp2_with fail
              all_goals go_meet
              all_goals exact ⟨rfl, rfl⟩
            subst e0
            by_cases e1 : v2 = S
            case neg =>
              obtain rfl : e = false := no_b he.out (fun h => e1 h.2)
              go_region
              all_goals go_wp2_with fail
              all_goals go_meet
              all_goals exact ⟨rfl, rfl⟩
            subst e1
            obtain rfl : e = true := he.out.2 ⟨rfl, rfl⟩
            go_region
            all_goals go_wp2_with fail
            all_goals go_meet
            all_goals exact ⟨rfl, rfl⟩
          case rest =>
          obtain ⟨rfl, rfl⟩ := hcut
          clear p1 p2 z1 z2
          have D2 := D.drew
          have Q2 := Q.drew
          clear D Q
          generalize wr.drew = wd at *
          cases e
          case false =>
            have HO2 : Hid (∀ k, k < 8 → o2 k = if k < q + 1 ∧ ow k = (M, S) then (0, 0) else ow k) := Lib.hid (once_no HO.out (fun h2 => by
              rw [HV.out] at h2
              have := he.out.2 ⟨(Prod.mk.inj h2).1, (Prod.mk.inj h2).2⟩
              cases this))
            clear HO HV he
            go_wp2_with fail
            exact ⟨⟨q + 1, o2, by omega, by go_num, D2, Q2, HO2⟩, by simp [Go.RowKit.intOf]; omega⟩
          case true =>
            have HO2 : Hid (∀ k, k < 8 → (fun j => if j = q then ((0 : Int), (0 : Int)) else o2 j) k = if k < q + 1 ∧ ow k = (M, S) then (0, 0) else ow k) := Lib.hid (once_yes HO.out (by
              have h2 := he.out.1 rfl
              rw [HV.out, h2.1, h2.2]))
            obtain ⟨p1, p2, ff⟩ := D2.own h8
            have f0 := ff (q * 2)
            have f1 := ff (q * 2 + 1)
            have D3 := Lib.hid (D2.setO q 0 0)
            have Q3 := Lib.hid ((Q2.far (p := ⟨io, q * 2, none⟩) (D2.gne rfl).1 (.int .i64 0)).far (p := ⟨io, q * 2 + 1, none⟩) (D2.gne rfl).1 (.int .i64 0))
            clear HO HV he ff D2 Q2
            go_wp2_with fail
            exact ⟨⟨q + 1, _, by omega, by go_num, D3.out, Q3.out, HO2⟩, by simp [Go.RowKit.intOf]; omega⟩
        · have h8I : ¬ (q : Int) < 8 := by omega
          have OF : Hid (OnceF (freeL L M S) o2 (if (l1, l2) = (M, S) then (0, 0) else (l1, l2))) := Lib.hid (LL.out.1.free M S (fun k hk => by
            rw [HO.out k hk]
            by_cases c : ow k = (M, S)
            · rw [if_pos ⟨by omega, c⟩, if_pos c]
            · rw [if_neg (fun h => c h.2), if_neg c]))
          have LF : Hid ((freeL L M S).length ≤ j + 1) := Lib.hid (Nat.le_trans (free_len _ _ _) (by have := LL.out.2.1; omega))
          obtain ⟨m1, m2, mf⟩ := D.lone
          have z1 : wr.cell? ⟨g, 1, none⟩ = some (.int .i64 M) := by rw [Q.cell]; rfl
          have z2 : wr.cell? ⟨g, 2, none⟩ = some (.int .i64 S) := by rw [Q.cell]; rfl
          obtain ⟨e, he⟩ := has_bool (l1 = M ∧ l2 = S)
          clear HO
          go_upto_region 20 with fail
          go_cut [65] (fun s wx => s = .bool e ∧ wx = wr)
          case first =>
            clear OF LL
            by_cases e0 : l1 = M
            case neg =>
              obtain rfl : e = false := no_b he.out (fun h => e0 h.1)
              go_wp2_with fail
              go_meet
              exact ⟨rfl, rfl⟩
            subst e0
            by_cases e1 : l2 = S
            case neg =>
              obtain rfl : e = false := no_b he.out (fun h => e1 h.2)
              go_wp2_with fail
              go_meet
              exact ⟨rfl, rfl⟩
            subst e1
            obtain rfl : e = true := he.out.2 ⟨rfl, rfl⟩
            go_wp2_with fail
            go_meet
            exact ⟨rfl, rfl⟩
          case rest =>
          obtain ⟨rfl, rfl⟩ := hcut
          clear m1 m2 z1 z2 mf Q
          have D2 := D.less (Q' := fun _ => False) (fun k e => e.elim)
          clear D
          cases e
          case false =>
            have OF2 : Hid (OnceF (freeL L M S) o2 (l1, l2)) := Lib.hid (by
              have h := OF.out
              rwa [if_neg (fun c => by have := he.out.2 ⟨(Prod.mk.inj c).1, (Prod.mk.inj c).2⟩; cases this)] at h)
            have PA := st_all D2 (by omega)
            clear OF he
            go_wp2_with fail
            refine PA.mono ?_
            rintro _ W8 ⟨A8, c8, rfl, b8⟩
            have D8 := D2.keep b8
            clear PA D2 b8
            go_wp2_with fail
            exact ⟨⟨j + 1, (freeL L M S).length, freeL L M S, o2, l1, l2, by omega, by go_num, rfl, D8.mono (Nat.le_succ j), Lib.hid ⟨OF2.out, LF.out, rfl⟩⟩, by simp [Go.RowKit.intOf]; omega⟩
          case true =>
            have OF2 : Hid (OnceF (freeL L M S) o2 (0, 0)) := Lib.hid (by
              have h := OF.out
              have h2 := he.out.1 rfl
              rwa [if_pos (by rw [h2.1, h2.2])] at h)
            obtain ⟨m1, m2, mf⟩ := D2.lone
            have f0 := mf 0
            have f1 := mf 1
            have D3 := D2.setL 0 0
            clear OF he D2 mf
            go_upto_region 22 with fail
            generalize (wc.setCell ⟨il, 0, none⟩ (.int .i64 0)).setCell ⟨il, 1, none⟩ (.int .i64 0) = W9 at *
            have PA := st_all D3 (by omega)
            clear m1 m2 f0 f1
            go_wp2_with fail
            refine PA.mono ?_
            rintro _ W8 ⟨A8, c8, rfl, b8⟩
            have D8 := D3.keep b8
            clear PA D3 b8
            go_wp2_with fail
            exact ⟨⟨j + 1, (freeL L M S).length, freeL L M S, o2, 0, 0, by omega, by go_num, rfl, D8.mono (Nat.le_succ j), Lib.hid ⟨OF2.out, LF.out, rfl⟩⟩, by simp [Go.RowKit.intOf]; omega⟩
    · obtain ⟨r, L', ho⟩ := take_ex L ⟨M, S, a.ids, a.all⟩
      have HO := Lib.hid ho
      have z3 : W6.cell? ⟨g, 3, none⟩ = some (.slice A1 n1 c1) := by rw [Q6.cell]; rfl
      have z4 : W6.cell? ⟨g, 4, none⟩ = some (.bool a.all) := by rw [Q6.cell]; rfl
      have PT := st_take D6 (by omega) M S _ a.ids a.all HTX.out (RU.out.below D6.below) HK.out.1 (by rw [HN1.out]; exact HK.out.2) r L' ho
      clear ho D6
      go_wp2_with fail
      refine PT.mono ?_
      rintro _ W7 ⟨rfl, D7, F7⟩
      have Q7 := F7.blk Q6 (fun e => e rfl)
      clear PT F7 Q6 y0 z1 z2 z3 z4
      cases r
      case false =>
        have hL : L' = L := by
          rcases HO.out with ⟨e, -⟩ | ⟨-, -, e⟩
          · cases e
          · exact e
        rw [hL] at D7
        have D8 := D7.less (Q' := fun _ => False) (fun k e => e.elim)
        have PA := st_all D8 (by omega)
        rw [LL.out.2.2] at PA
        clear D7 Q7 HO hL
        go_wp2_with fail
        refine PA.mono ?_
        rintro _ W8 ⟨A8, c8, rfl, b8⟩
        have D9 := D8.keep b8
        clear PA D8 b8
        go_wp2_with fail
        exact ⟨⟨j + 1, n, L, ow, l1, l2, by omega, by go_num, rfl, D9, Lib.hid ⟨LL.out.1, by have := LL.out.2.1; omega, LL.out.2.2⟩⟩, by simp [Go.RowKit.intOf]; omega⟩
      case true =>
        have hL : Hid (MayTake L ⟨M, S, a.ids, a.all⟩ ∧ L' = L ++ [⟨M, S, a.ids, a.all⟩]) := Lib.hid (by
          rcases HO.out with ⟨-, e1, e2⟩ | ⟨e, -⟩
          · exact ⟨e1, e2⟩
          · cases e)
        clear HO
        have OF := Lib.hid (LL.out.1.more ⟨M, S, a.ids, a.all⟩)
        rw [← hL.out.2] at OF
        have HLn : Hid (L'.length = n + 1) := Lib.hid (by rw [hL.out.2, List.length_append, LL.out.2.2]; rfl)
        have hl2 : ¬ 0 < l2 := LL.out.1.no hL.out.1
        have hal : a.all = true → n = 0 := fun e => by
          have h := all_alone hL.out.1 e
          have h2 := LL.out.2.2
          rw [h] at h2
          exact h2.symm
        have HAL := Lib.hid hal
        clear hal
        have HN2' : Hid (n ≤ 60) := Lib.hid (by have := LL.out.2.1; have := LL.out.2.2; omega)
        obtain ⟨n2, hn2⟩ : ∃ n2, n + 1 = n2 := ⟨_, rfl⟩
        have HN2 := Lib.hid hn2
        have hw : wrap64 ((n : Int) + 1) = (n2 : Int) := by have := HN2'.out; unfold wrap64; omega
        rw [hn2] at HLn
        have PA := st_all D7 (by omega)
        rw [HLn.out] at PA
        obtain ⟨m1, m2, mf⟩ := D7.lone
        have z4 : W7.cell? ⟨g, 4, none⟩ = some (.bool a.all) := by rw [Q7.cell]; rfl
        obtain ⟨al, hal⟩ : ∃ al, a.all = al := ⟨_, rfl⟩
        rw [hal] at z4
        have HA := Lib.hid hal
        clear hal hn2 mf
        go_upto_region 27 with fail
        try rw [hw]
        clear hw
        cases al
        case true =>
          have h1 : ¬ (1 : Int) < (n2 : Int) := by have := HAL.out HA.out; have := HN2.out; omega
          go_wp2_with fail
          refine PA.mono ?_
          rintro _ W8 ⟨A8, c8, rfl, b8⟩
          have D8 := D7.keep b8
          have Q8 := Q7.keep b8
          clear PA D7 Q7 b8 m1 m2 z4
          have z4 : W8.cell? ⟨g, 4, none⟩ = some (.bool true) := by rw [Q8.cell]; show some (Value.bool a.all) = _; rw [HA.out]
          have z1 : W8.cell? ⟨g, 1, none⟩ = some (.int .i64 M) := by rw [Q8.cell]; rfl
          have z2 : W8.cell? ⟨g, 2, none⟩ = some (.int .i64 S) := by rw [Q8.cell]; rfl
          obtain ⟨m1, m2, mf⟩ := D8.lone
          have f0 := mf 0
          have f1 := mf 1
          have D9 := D8.setL M S
          have Q9 := (Q8.far (p := ⟨il, 0, none⟩) (D8.gne rfl).2 (.int .i64 M)).far (p := ⟨il, 1, none⟩) (D8.gne rfl).2 (.int .i64 S)
          have OF9 : Hid (OnceF L' ow (M, S)) := Lib.hid (by
            have h := OF.out
            rw [hL.out.2] at h ⊢
            exact h.alone HA.out)
          clear D8 Q8 mf OF
          go_upto_region 31 with fail
          generalize (W8.setCell ⟨il, 0, none⟩ (.int .i64 M)).setCell ⟨il, 1, none⟩ (.int .i64 S) = W9 at *
          clear m1 m2 f0 f1 z1 z2 z4
          go_wp2_with fail
          go_loopw [10] (fun i W => ∃ (q : Nat) (o2 : Nat → Int × Int), q ≤ n1 ∧ i = .int .i64 q ∧ St w W (fun k => k = g) tb io il (j + 1) L' o2 M S ∧ Blk W g 33 #[.int .i64 a.kind, .int .i64 M, .int .i64 S, .slice A1 n1 c1, .bool a.all] ∧ Hid (OnceF L' o2 (M, S))) (fun i _ => n1 - (Go.RowKit.intOf i).toNat)
          case atStart => exact ⟨0, ow, Nat.zero_le _, rfl, D9, Q9, OF9⟩
          case round =>
            clear D9 Q9 OF9
            obtain ⟨q, o2, hq, rfl, D, Q, OF⟩ := hrel
            have z1 : wr.cell? ⟨g, 1, none⟩ = some (.int .i64 M) := by rw [Q.cell]; rfl
            have z2 : wr.cell? ⟨g, 2, none⟩ = some (.int .i64 S) := by rw [Q.cell]; rfl
            have z3 : wr.cell? ⟨g, 3, none⟩ = some (.slice A1 n1 c1) := by rw [Q.cell]; rfl
            by_cases hqn : q < n1
            case neg =>
              have hqI : ¬ (q : Int) < (n1 : Int) := by omega
              have D2 := D.less (Q' := fun _ => False) (fun k e => e.elim)
              clear D Q z1 z2
              go_wp2_with fail
              exact ⟨⟨j + 1, n2, L', o2, M, S, by omega, by go_num, rfl, D2, Lib.hid ⟨OF.out, by have := LL.out.2.1; have := LL.out.2.2; have := HLn.out; have := HN2.out; omega, HLn.out⟩⟩, by simp [Go.RowKit.intOf]; omega⟩
            case pos =>
            have hqI : (q : Int) < (n1 : Int) := by omega
            obtain ⟨A1', c1', e1', hle, hRU⟩ := RU.out
            obtain ⟨bI, oI, e2', hbI, hcI⟩ := hRU (by have := HN1.out; omega)
            have eA : A1 = some ⟨bI, oI, none⟩ := by injection e1' with k1 k2 k3; rw [k1, e2']
            have k0 := (D.below.cell (p := ⟨bI, oI + q, none⟩) hbI).trans (hcI q (by have := HN1.out; omega))
            subst eA
            obtain ⟨K, hK⟩ : ∃ K, it a.ids q = K := ⟨_, rfl⟩
            rw [hK] at k0
            have HKm : Hid (K ∈ a.ids) := Lib.hid (by rw [← hK]; exact it_mem (by have := HN1.out; omega))
            have hn1 : n1 ≤ 9223372036854775807 := by have := HN1.out; omega
            clear hK e1' e2' hle hRU hbI hcI
            by_cases kl : K < 0
            · have kl' := kl
              go_wp2_with fail
              exact ⟨⟨q + 1, o2, by omega, by go_num, D, Q, OF⟩, by simp [Go.RowKit.intOf]; omega⟩
            by_cases kh : 7 < K
            · go_wp2_with fail
              exact ⟨⟨q + 1, o2, by omega, by go_num, D, Q, OF⟩, by simp [Go.RowKit.intOf]; omega⟩
            obtain ⟨k, rfl⟩ : ∃ k : Nat, K = (k : Int) := ⟨K.toNat, by omega⟩
            have k8 : k < 8 := by omega
            have k8I : (k : Int) < 8 := by omega
            obtain ⟨p1, p2, ff⟩ := D.own k8
            obtain ⟨⟨v1, v2⟩, hv⟩ : ∃ v, o2 k = v := ⟨_, rfl⟩
            rw [hv] at p1 p2
            dsimp only at p1 p2
            have HV := Lib.hid hv
            clear hv ff
            go_upto_region 36 with fail
            go_cut [138] (fun s wx => s = .bool false ∧ Below wr.heap.size wr wx)
            case first =>
              by_cases pv : 0 < v2
              case pos =>
                have hh := OF.out
                rw [hL.out.2] at hh
                have e := hh.ok hL.out.1 HKm.out k8 (by rw [HV.out]; exact pv)
                rw [HV.out] at e
                have e1 : v1 = M := (Prod.mk.inj e).1
                have e2 : v2 = S := (Prod.mk.inj e).2
                rw [e1] at p1
                rw [e2] at p2 pv
                clear hh e e1 e2 HV
                go_region
                all_goals go_wp2_with fail
                all_goals go_meet
                all_goals exact ⟨rfl, Bd B0⟩
              case neg =>
                refine wp_region_held_drew (S := (fun w' => w'.cell? ⟨io, k * 2 + 1, none⟩ = some (.int .i64 v2))) (by kernel_rfl) p2 (fun hHeld => ?_)
                refine wpAnyH_take (i := 0) (v := (.int .i64 k)) rfl (by kernel_rfl) (by kernel_rfl) (by kernel_rfl) (fun _ _ _ h => h) (Or.inl ⟨by rfl, fun w hSw => by (try dsimp only at hSw); go_simp <;> first | rfl | assumption | (simp; omega) | omega⟩) (by assumption) ?_
                try simp only [List.getElem_toArray, List.getElem_cons_zero, List.getElem_cons_succ, Act.put, List.setIfInBounds_toArray, List.set_cons_zero, List.set_cons_succ]
                refine wpAnyH_take (i := 1) (v := (.pointer (some ⟨io, k * 2, none⟩))) rfl (by kernel_rfl) (by kernel_rfl) (by kernel_rfl) (fun _ _ _ h => h) (Or.inl ⟨by rfl, fun w hSw => by (try dsimp only at hSw); go_simp <;> first | rfl | assumption | (simp; omega) | omega⟩) (by assumption) ?_
                try simp only [List.getElem_toArray, List.getElem_cons_zero, List.getElem_cons_succ, Act.put, List.setIfInBounds_toArray, List.set_cons_zero, List.set_cons_succ]
                refine wpAnyH_take (i := 2) (v := (.pointer (some ⟨io, k * 2 + 1, none⟩))) rfl (by kernel_rfl) (by kernel_rfl) (by kernel_rfl) (fun _ _ _ h => h) (Or.inl ⟨by rfl, fun w hSw => by (try dsimp only at hSw); go_simp <;> first | rfl | assumption | (simp; omega) | omega⟩) (by assumption) ?_
                try simp only [List.getElem_toArray, List.getElem_cons_zero, List.getElem_cons_succ, Act.put, List.setIfInBounds_toArray, List.set_cons_zero, List.set_cons_succ]
                refine wpAnyH_take (i := 3) (v := (.int .i64 v2)) rfl (by kernel_rfl) (by kernel_rfl) (by kernel_rfl) (fun _ _ _ h => h) (Or.inl ⟨by rfl, fun w hSw => by (try dsimp only at hSw); go_simp <;> first | rfl | assumption | (simp; omega) | omega⟩) (by assumption) ?_
                try simp only [List.getElem_toArray, List.getElem_cons_zero, List.getElem_cons_succ, Act.put, List.setIfInBounds_toArray, List.set_cons_zero, List.set_cons_succ]
                refine wpAnyH_take (i := 4) (v := (.bool false)) rfl (by kernel_rfl) (by kernel_rfl) (by kernel_rfl) (fun _ _ _ h => h) (Or.inl ⟨by rfl, fun w hSw => by (try dsimp only at hSw); go_simp <;> first | rfl | assumption | (simp; omega) | omega⟩) (by assumption) ?_
                try simp only [List.getElem_toArray, List.getElem_cons_zero, List.getElem_cons_succ, Act.put, List.setIfInBounds_toArray, List.set_cons_zero, List.set_cons_succ]
                refine wpAnyH_take (i := 5) (v := (.bool false)) rfl (by kernel_rfl) (by kernel_rfl) (by kernel_rfl) (fun _ _ _ h => h) (Or.inl ⟨by rfl, fun w hSw => by (try dsimp only at hSw); go_simp <;> first | rfl | assumption | (simp; omega) | omega⟩) (by assumption) ?_
                try simp only [List.getElem_toArray, List.getElem_cons_zero, List.getElem_cons_succ, Act.put, List.setIfInBounds_toArray, List.set_cons_zero, List.set_cons_succ]
                refine wpAnyH_take (i := 6) (v := undef) rfl (by kernel_rfl) (by kernel_rfl) (by kernel_rfl) (fun _ _ _ h => h) (Or.inr ⟨by rfl, rfl⟩) (by assumption) ?_
                try simp only [List.getElem_toArray, List.getElem_cons_zero, List.getElem_cons_succ, Act.put, List.setIfInBounds_toArray, List.set_cons_zero, List.set_cons_succ]
                refine wpAnyH_take (i := 7) (v := undef) rfl (by kernel_rfl) (by kernel_rfl) (by kernel_rfl) (fun _ _ _ h => h) (Or.inr ⟨by rfl, rfl⟩) (by assumption) ?_
                try simp only [List.getElem_toArray, List.getElem_cons_zero, List.getElem_cons_succ, Act.put, List.setIfInBounds_toArray, List.set_cons_zero, List.set_cons_succ]
                refine wpAnyH_take (i := 8) (v := undef) rfl (by kernel_rfl) (by kernel_rfl) (by kernel_rfl) (fun _ _ _ h => h) (Or.inr ⟨by rfl, rfl⟩) (by assumption) ?_
                try simp only [List.getElem_toArray, List.getElem_cons_zero, List.getElem_cons_succ, Act.put, List.setIfInBounds_toArray, List.set_cons_zero, List.set_cons_succ]
                refine wpAnyH_take (i := 9) (v := undef) rfl (by kernel_rfl) (by kernel_rfl) (by kernel_rfl) (fun _ _ _ h => h) (Or.inr ⟨by rfl, rfl⟩) (by assumption) ?_
                try simp only [List.getElem_toArray, List.getElem_cons_zero, List.getElem_cons_succ, Act.put, List.setIfInBounds_toArray, List.set_cons_zero, List.set_cons_succ]
                refine wpAnyH_take (i := 10) (v := undef) rfl (by kernel_rfl) (by kernel_rfl) (by kernel_rfl) (fun _ _ _ h => h) (Or.inr ⟨by rfl, rfl⟩) (by assumption) ?_
                try simp only [List.getElem_toArray, List.getElem_cons_zero, List.getElem_cons_succ, Act.put, List.setIfInBounds_toArray, List.set_cons_zero, List.set_cons_succ]
                refine wpAnyH_take (i := 11) (v := undef) rfl (by kernel_rfl) (by kernel_rfl) (by kernel_rfl) (fun _ _ _ h => h) (Or.inr ⟨by rfl, rfl⟩) (by assumption) ?_
                try simp only [List.getElem_toArray, List.getElem_cons_zero, List.getElem_cons_succ, Act.put, List.setIfInBounds_toArray, List.set_cons_zero, List.set_cons_succ]
                refine wpAnyH_take (i := 12) (v := (.bool false)) rfl (by kernel_rfl) (by kernel_rfl) (by kernel_rfl) (fun _ _ _ h => h) (Or.inl ⟨by rfl, fun w hSw => by (try dsimp only at hSw); go_simp <;> first | rfl | assumption | (simp; omega) | omega⟩) (by assumption) ?_
                try simp only [List.getElem_toArray, List.getElem_cons_zero, List.getElem_cons_succ, Act.put, List.setIfInBounds_toArray, List.set_cons_zero, List.set_cons_succ]
                refine wpAnyH_done (by kernel_rfl) ?_ _
                go_wp2_with fail
                go_meet
                exact ⟨rfl, Bd B0⟩
            case rest =>
            obtain ⟨rfl, hbc⟩ := hcut
            have D2 := D.keep hbc
            have Q2 := Q.keep hbc
            have z1 : wc.cell? ⟨g, 1, none⟩ = some (.int .i64 M) := by rw [Q2.cell]; rfl
            have z2 : wc.cell? ⟨g, 2, none⟩ = some (.int .i64 S) := by rw [Q2.cell]; rfl
            have OF2 : Hid (OnceF L' (fun i => if i = k then (M, S) else o2 i) (M, S)) := Lib.hid (by
              have hh := OF.out
              rw [hL.out.2] at hh ⊢
              exact hh.set (t := ⟨M, S, a.ids, a.all⟩) HKm.out)
            obtain ⟨q1, q2, ff⟩ := D2.own k8
            have f0 := ff (k * 2)
            have f1 := ff (k * 2 + 1)
            have D3 := Lib.hid (D2.setO k M S)
            have Q3 := Lib.hid ((Q2.far (p := ⟨io, k * 2, none⟩) (D2.gne rfl).1 (.int .i64 M)).far (p := ⟨io, k * 2 + 1, none⟩) (D2.gne rfl).1 (.int .i64 S))
            clear D Q D2 Q2 ff OF HV p1 p2 z3 k0 hbc
            go_wp2_with fail
            exact ⟨⟨q + 1, _, by omega, by go_num, D3.out, Q3.out, OF2⟩, by simp [Go.RowKit.intOf]; omega⟩
        case false =>
          go_wp2_with fail
          refine PA.mono ?_
          rintro _ W8 ⟨A8, c8, rfl, b8⟩
          have D9 := D7.keep b8
          have Q9 := Q7.keep b8
          clear PA D7 Q7 b8 m1 m2 z4
          have z4 : W8.cell? ⟨g, 4, none⟩ = some (.bool false) := by rw [Q9.cell]; show some (Value.bool a.all) = _; rw [HA.out]
          have OF9 := OF
          clear OF
          go_upto_region 31 with fail
          clear z4
          go_wp2_with fail
          go_loopw [10] (fun i W => ∃ (q : Nat) (o2 : Nat → Int × Int), q ≤ n1 ∧ i = .int .i64 q ∧ St w W (fun k => k = g) tb io il (j + 1) L' o2 l1 l2 ∧ Blk W g 33 #[.int .i64 a.kind, .int .i64 M, .int .i64 S, .slice A1 n1 c1, .bool a.all] ∧ Hid (OnceF L' o2 (l1, l2))) (fun i _ => n1 - (Go.RowKit.intOf i).toNat)
          case atStart => exact ⟨0, ow, Nat.zero_le _, rfl, D9, Q9, OF9⟩
          case round =>
            clear D9 Q9 OF9
            obtain ⟨q, o2, hq, rfl, D, Q, OF⟩ := hrel
            have z1 : wr.cell? ⟨g, 1, none⟩ = some (.int .i64 M) := by rw [Q.cell]; rfl
            have z2 : wr.cell? ⟨g, 2, none⟩ = some (.int .i64 S) := by rw [Q.cell]; rfl
            have z3 : wr.cell? ⟨g, 3, none⟩ = some (.slice A1 n1 c1) := by rw [Q.cell]; rfl
            by_cases hqn : q < n1
            case neg =>
              have hqI : ¬ (q : Int) < (n1 : Int) := by omega
              have D2 := D.less (Q' := fun _ => False) (fun k e => e.elim)
              clear D Q z1 z2
              go_wp2_with fail
              exact ⟨⟨j + 1, n2, L', o2, l1, l2, by omega, by go_num, rfl, D2, Lib.hid ⟨OF.out, by have := LL.out.2.1; have := LL.out.2.2; have := HLn.out; have := HN2.out; omega, HLn.out⟩⟩, by simp [Go.RowKit.intOf]; omega⟩
            case pos =>
            have hqI : (q : Int) < (n1 : Int) := by omega
            obtain ⟨A1', c1', e1', hle, hRU⟩ := RU.out
            obtain ⟨bI, oI, e2', hbI, hcI⟩ := hRU (by have := HN1.out; omega)
            have eA : A1 = some ⟨bI, oI, none⟩ := by injection e1' with k1 k2 k3; rw [k1, e2']
            have k0 := (D.below.cell (p := ⟨bI, oI + q, none⟩) hbI).trans (hcI q (by have := HN1.out; omega))
            subst eA
            obtain ⟨K, hK⟩ : ∃ K, it a.ids q = K := ⟨_, rfl⟩
            rw [hK] at k0
            have HKm : Hid (K ∈ a.ids) := Lib.hid (by rw [← hK]; exact it_mem (by have := HN1.out; omega))
            have hn1 : n1 ≤ 9223372036854775807 := by have := HN1.out; omega
            clear hK e1' e2' hle hRU hbI hcI
            by_cases kl : K < 0
            · have kl' := kl
              go_wp2_with fail
              exact ⟨⟨q + 1, o2, by omega, by go_num, D, Q, OF⟩, by simp [Go.RowKit.intOf]; omega⟩
            by_cases kh : 7 < K
            · go_wp2_with fail
              exact ⟨⟨q + 1, o2, by omega, by go_num, D, Q, OF⟩, by simp [Go.RowKit.intOf]; omega⟩
            obtain ⟨k, rfl⟩ : ∃ k : Nat, K = (k : Int) := ⟨K.toNat, by omega⟩
            have k8 : k < 8 := by omega
            have k8I : (k : Int) < 8 := by omega
            obtain ⟨p1, p2, ff⟩ := D.own k8
            obtain ⟨⟨v1, v2⟩, hv⟩ : ∃ v, o2 k = v := ⟨_, rfl⟩
            rw [hv] at p1 p2
            dsimp only at p1 p2
            have HV := Lib.hid hv
            clear hv ff
            go_upto_region 36 with fail
            go_cut [138] (fun s wx => s = .bool false ∧ Below wr.heap.size wr wx)
            case first =>
              by_cases pv : 0 < v2
              case pos =>
                have hh := OF.out
                rw [hL.out.2] at hh
                have e := hh.ok hL.out.1 HKm.out k8 (by rw [HV.out]; exact pv)
                rw [HV.out] at e
                have e1 : v1 = M := (Prod.mk.inj e).1
                have e2 : v2 = S := (Prod.mk.inj e).2
                rw [e1] at p1
                rw [e2] at p2 pv
                clear hh e e1 e2 HV
                go_region
                all_goals go_wp2_with fail
                all_goals go_meet
                all_goals exact ⟨rfl, Bd B0⟩
              case neg =>
                refine wp_region_held_drew (S := (fun w' => w'.cell? ⟨io, k * 2 + 1, none⟩ = some (.int .i64 v2))) (by kernel_rfl) p2 (fun hHeld => ?_)
                refine wpAnyH_take (i := 0) (v := (.int .i64 k)) rfl (by kernel_rfl) (by kernel_rfl) (by kernel_rfl) (fun _ _ _ h => h) (Or.inl ⟨by rfl, fun w hSw => by (try dsimp only at hSw); go_simp <;> first | rfl | assumption | (simp; omega) | omega⟩) (by assumption) ?_
                try simp only [List.getElem_toArray, List.getElem_cons_zero, List.getElem_cons_succ, Act.put, List.setIfInBounds_toArray, List.set_cons_zero, List.set_cons_succ]
                refine wpAnyH_take (i := 1) (v := (.pointer (some ⟨io, k * 2, none⟩))) rfl (by kernel_rfl) (by kernel_rfl) (by kernel_rfl) (fun _ _ _ h => h) (Or.inl ⟨by rfl, fun w hSw => by (try dsimp only at hSw); go_simp <;> first | rfl | assumption | (simp; omega) | omega⟩) (by assumption) ?_
                try simp only [List.getElem_toArray, List.getElem_cons_zero, List.getElem_cons_succ, Act.put, List.setIfInBounds_toArray, List.set_cons_zero, List.set_cons_succ]
                refine wpAnyH_take (i := 2) (v := (.pointer (some ⟨io, k * 2 + 1, none⟩))) rfl (by kernel_rfl) (by kernel_rfl) (by kernel_rfl) (fun _ _ _ h => h) (Or.inl ⟨by rfl, fun w hSw => by (try dsimp only at hSw); go_simp <;> first | rfl | assumption | (simp; omega) | omega⟩) (by assumption) ?_
                try simp only [List.getElem_toArray, List.getElem_cons_zero, List.getElem_cons_succ, Act.put, List.setIfInBounds_toArray, List.set_cons_zero, List.set_cons_succ]
                refine wpAnyH_take (i := 3) (v := (.int .i64 v2)) rfl (by kernel_rfl) (by kernel_rfl) (by kernel_rfl) (fun _ _ _ h => h) (Or.inl ⟨by rfl, fun w hSw => by (try dsimp only at hSw); go_simp <;> first | rfl | assumption | (simp; omega) | omega⟩) (by assumption) ?_
                try simp only [List.getElem_toArray, List.getElem_cons_zero, List.getElem_cons_succ, Act.put, List.setIfInBounds_toArray, List.set_cons_zero, List.set_cons_succ]
                refine wpAnyH_take (i := 4) (v := (.bool false)) rfl (by kernel_rfl) (by kernel_rfl) (by kernel_rfl) (fun _ _ _ h => h) (Or.inl ⟨by rfl, fun w hSw => by (try dsimp only at hSw); go_simp <;> first | rfl | assumption | (simp; omega) | omega⟩) (by assumption) ?_
                try simp only [List.getElem_toArray, List.getElem_cons_zero, List.getElem_cons_succ, Act.put, List.setIfInBounds_toArray, List.set_cons_zero, List.set_cons_succ]
                refine wpAnyH_take (i := 5) (v := (.bool false)) rfl (by kernel_rfl) (by kernel_rfl) (by kernel_rfl) (fun _ _ _ h => h) (Or.inl ⟨by rfl, fun w hSw => by (try dsimp only at hSw); go_simp <;> first | rfl | assumption | (simp; omega) | omega⟩) (by assumption) ?_
                try simp only [List.getElem_toArray, List.getElem_cons_zero, List.getElem_cons_succ, Act.put, List.setIfInBounds_toArray, List.set_cons_zero, List.set_cons_succ]
                refine wpAnyH_take (i := 6) (v := undef) rfl (by kernel_rfl) (by kernel_rfl) (by kernel_rfl) (fun _ _ _ h => h) (Or.inr ⟨by rfl, rfl⟩) (by assumption) ?_
                try simp only [List.getElem_toArray, List.getElem_cons_zero, List.getElem_cons_succ, Act.put, List.setIfInBounds_toArray, List.set_cons_zero, List.set_cons_succ]
                refine wpAnyH_take (i := 7) (v := undef) rfl (by kernel_rfl) (by kernel_rfl) (by kernel_rfl) (fun _ _ _ h => h) (Or.inr ⟨by rfl, rfl⟩) (by assumption) ?_
                try simp only [List.getElem_toArray, List.getElem_cons_zero, List.getElem_cons_succ, Act.put, List.setIfInBounds_toArray, List.set_cons_zero, List.set_cons_succ]
                refine wpAnyH_take (i := 8) (v := undef) rfl (by kernel_rfl) (by kernel_rfl) (by kernel_rfl) (fun _ _ _ h => h) (Or.inr ⟨by rfl, rfl⟩) (by assumption) ?_
                try simp only [List.getElem_toArray, List.getElem_cons_zero, List.getElem_cons_succ, Act.put, List.setIfInBounds_toArray, List.set_cons_zero, List.set_cons_succ]
                refine wpAnyH_take (i := 9) (v := undef) rfl (by kernel_rfl) (by kernel_rfl) (by kernel_rfl) (fun _ _ _ h => h) (Or.inr ⟨by rfl, rfl⟩) (by assumption) ?_
                try simp only [List.getElem_toArray, List.getElem_cons_zero, List.getElem_cons_succ, Act.put, List.setIfInBounds_toArray, List.set_cons_zero, List.set_cons_succ]
                refine wpAnyH_take (i := 10) (v := undef) rfl (by kernel_rfl) (by kernel_rfl) (by kernel_rfl) (fun _ _ _ h => h) (Or.inr ⟨by rfl, rfl⟩) (by assumption) ?_
                try simp only [List.getElem_toArray, List.getElem_cons_zero, List.getElem_cons_succ, Act.put, List.setIfInBounds_toArray, List.set_cons_zero, List.set_cons_succ]
                refine wpAnyH_take (i := 11) (v := undef) rfl (by kernel_rfl) (by kernel_rfl) (by kernel_rfl) (fun _ _ _ h => h) (Or.inr ⟨by rfl, rfl⟩) (by assumption) ?_
                try simp only [List.getElem_toArray, List.getElem_cons_zero, List.getElem_cons_succ, Act.put, List.setIfInBounds_toArray, List.set_cons_zero, List.set_cons_succ]
                refine wpAnyH_take (i := 12) (v := (.bool false)) rfl (by kernel_rfl) (by kernel_rfl) (by kernel_rfl) (fun _ _ _ h => h) (Or.inl ⟨by rfl, fun w hSw => by (try dsimp only at hSw); go_simp <;> first | rfl | assumption | (simp; omega) | omega⟩) (by assumption) ?_
                try simp only [List.getElem_toArray, List.getElem_cons_zero, List.getElem_cons_succ, Act.put, List.setIfInBounds_toArray, List.set_cons_zero, List.set_cons_succ]
                refine wpAnyH_done (by kernel_rfl) ?_ _
                go_wp2_with fail
                go_meet
                exact ⟨rfl, Bd B0⟩
            case rest =>
            obtain ⟨rfl, hbc⟩ := hcut
            have D2 := D.keep hbc
            have Q2 := Q.keep hbc
            have z1 : wc.cell? ⟨g, 1, none⟩ = some (.int .i64 M) := by rw [Q2.cell]; rfl
            have z2 : wc.cell? ⟨g, 2, none⟩ = some (.int .i64 S) := by rw [Q2.cell]; rfl
            have OF2 : Hid (OnceF L' (fun i => if i = k then (M, S) else o2 i) (l1, l2)) := Lib.hid (by
              have hh := OF.out
              rw [hL.out.2] at hh ⊢
              exact hh.set (t := ⟨M, S, a.ids, a.all⟩) HKm.out)
            obtain ⟨q1, q2, ff⟩ := D2.own k8
            have f0 := ff (k * 2)
            have f1 := ff (k * 2 + 1)
            have D3 := Lib.hid (D2.setO k M S)
            have Q3 := Lib.hid ((Q2.far (p := ⟨io, k * 2, none⟩) (D2.gne rfl).1 (.int .i64 M)).far (p := ⟨io, k * 2 + 1, none⟩) (D2.gne rfl).1 (.int .i64 S))
            clear D Q D2 Q2 ff OF HV p1 p2 z3 k0 hbc
            go_wp2_with fail
            exact ⟨⟨q + 1, _, by omega, by go_num, D3.out, Q3.out, OF2⟩, by simp [Go.RowKit.intOf]; omega⟩

set_option maxRecDepth 100000 in
theorem lifted (os : Os) (started : os.Started) (H : Type) (enc : TypeId × Value → H) :
    ReturnsInHanded {} Try.checked os 4 .any (Rows.lockOnceSpec.pre6 enc Try.prog Try.f4 Rows.lockOnceRow.domain false) (Rows.lockOnceSpec.post enc Try.prog Try.f4 false true false false) := by
  refine returnsInHanded_of_change_sized (C := Try.checked) own started (by kernel_rfl) Try.func4
    (ChangeSpec.witness6 (enc := enc) (C := Try.checked) false ⟨#[], #[.slice none 0 0], []⟩ 8 (by kernel_rfl) (by kernel_rfl) (by kernel_rfl) (by kernel_rfl)) ?_
  intro W base args ds gs before hval0 hW hcnd hsz0 _
  have hsz : (DataW.weightsEach Try.prog (Try.f4.params.toList ++ Rows.lockOnceSpec.plain.varTypes Try.prog) (ds ++ gs)).all (· ≤ reachBytes) = true := hsz0
  clear hsz0
  have hval : ∀ (j : Nat) t v, Try.f4.params[j]? = some t → args[j]? = some v → Value.okWide Try.prog W .any base t v := hval0
  have hW' := hW
  obtain ⟨p, q, hA0, hV, rfl, hfz, hnd⟩ := hW
  have hA : DataW.TrodAll enc Try.prog W 0 (fun _ => true) true Try.f4.params.toList args.toList ds p := hA0
  rw [Try.params4] at hA hval hsz
  obtain ⟨v0, vs0, d0, ds0, p0, q0, hargs, rfl, rfl, h0, r0⟩ := trodAll_cons hA
  obtain ⟨rfl, rfl, rfl⟩ := trodAll_nil r0
  obtain rfl : args = #[v0] := by cases args; simp_all
  obtain ⟨rfl, rfl⟩ := trodVars_none hV
  have k0 := h0
  have lt0 : ∀ x ∈ p0, x.block < W.heap.size := by obtain ⟨m, hm⟩ := k0; exact DataW.trod_lt m _ _ _ hm
  obtain ⟨rs0, hrs0, fi0⟩ := LckW.open_actls (hval 0 22 v0 rfl rfl) h0 (fun n hn => by
    have := List.all_eq_true.1 hsz n (DataW.weights_mem_each (j := 0) rfl rfl n hn)
    simpa using this)
  clear hA0 hval0
  refine (walk v0 rs0 W hrs0 fi0).mono fun e W' ⟨he, bel⟩ => ?_
  subst he
  exact ⟨_, rfl, _, _, _, [], _, [], hW', trodAll_mk1 (shut_bool Try.underlying4 _), (trodAll_cons_mk (Below.trod laidOut (by kernel_rfl) (of_decide_eq_true (by kernel_rfl)) k0 bel lt0) trodAll_mk0), rfl, bel.frame _, fun h => by cases h⟩

theorem proved : Rows.LockOnceSaid :=
  OpenClaim.holds_of_wide 4 Try.f4 rfl rfl rfl rfl rfl rfl rfl ⟨rfl, rfl, rfl, rfl, rfl⟩ rfl rfl rfl rfl rfl (by kernel_rfl) Try.func4 (by kernel_rfl)
    (of_decide_eq_true (by kernel_rfl)) (by unfold Func.isWrapper; first | (rw [if_pos (by decide +kernel)]; kernel_rfl) | (rw [if_neg (by decide +kernel)]; exact ⟨rfl, rfl⟩))
    (fun os started H enc _ => lifted os started H enc)
#print axioms proved
end Go.Proofs.Ytnlpbfpmnjplhaa.lockOnce
