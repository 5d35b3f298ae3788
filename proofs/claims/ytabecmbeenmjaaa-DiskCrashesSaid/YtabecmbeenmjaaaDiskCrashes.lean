/-
  For any writes ahead of a sync and behind it and any crash, each sector holds what was synced, what was written, or, the torn one, a part of each: the law DiskCrashes returns true.
-/
import Derived.Test.YtabecmbeenmjaaaRows
import Derived.Test.YtabecmbeenmjaaaDkAwake
import Derived.Test.YtabecmbeenmjaaaDkForm
import Derived.Test.YtabecmbeenmjaaaIntOpen
import Derived.WalkKit
import Derived.BigQuiet
import Derived.ProofKit
import Derived.OpenShut
import Derived.ShutString
import Derived.ChangeOld
import Derived.Below
import Derived.Lib.SmallJoins
namespace Go.Proofs.Ytabecmbeenmjaaa.diskCrashes
open Go.ChangeShapes Go.WideShapes Go.ChangeAt Go.RowKit Go.Joins
open Go.ChangeMaps (open_string shut_string)
set_option linter.all false

theorem own : ownKnob Try.prog.godebug = none := by kernel_rfl
theorem laidOut : laidOutB Try.prog = true := by kernel_rfl

open WideW DiskW
theorem hash16 (n : Int) : ∃ k : Nat, bits .and .i64 n 15 = (k : Int) ∧ k < 16 := by
  rw [and15]
  have p1 : 0 ≤ n % 16 := Int.emod_nonneg _ (by decide)
  have p2 : n % 16 < 16 := Int.emod_lt_of_pos _ (by decide)
  exact ⟨(n % 16).toNat, by omega, by omega⟩
def set1 {α : Type} (f : Nat → α) (k : Nat) (y : α) : Nat → α := fun t => if t = k then y else f t
theorem val_bool {a b : Bool} (h : a = b) : Value.bool a = .bool b := by rw [h]
theorem say_and {r : Bool} {P Q : Prop} [Decidable P] [Decidable Q] (h : Hid (r = true ↔ P ∧ Q)) : (decide P && decide Q) = r := by
  rw [Bool.eq_iff_iff, h.out]; simp
/-- Ahead of the sync. -/
def Tells (s : St) (f : Nat → Int) : Prop := s.n = 16 ∧ ∀ t, t < 16 → s.now t = rep (f t)
theorem Tells.write {s : St} {f : Nat → Int} (h : Tells s f) (k : Nat) (y : Int) : Tells (s.write k (rep y)) (set1 f k y) := by
  refine ⟨h.1, fun t ht => ?_⟩
  show up s.now k (rep y) t = _
  by_cases e : t = k
  · subst e; simp [up, set1]
  · rw [up_other _ _ _ e]; simp [e, h.2 t ht, set1]
/-- Behind the sync. -/
def Tells2 (s : St) (f0 f1 : Nat → Int) (dd : Nat → Bool) : Prop := s.n = 16 ∧ ∀ t, t < 16 → s.now t = rep (f1 t) ∧ s.old t = rep (f0 t) ∧ s.dirty t = dd t
theorem Tells.sync {s : St} {f : Nat → Int} (h : Tells s f) : Tells2 s.sync f f (fun _ => false) := ⟨h.1, fun t ht => ⟨h.2 t ht, h.2 t ht, rfl⟩⟩
theorem Tells2.write {s : St} {f0 f1 : Nat → Int} {dd : Nat → Bool} (h : Tells2 s f0 f1 dd) (k : Nat) (y : Int) : Tells2 (s.write k (rep y)) f0 (set1 f1 k y) (set1 dd k true) := by
  refine ⟨h.1, fun t ht => ⟨?_, (h.2 t ht).2.1, ?_⟩⟩
  · show up s.now k (rep y) t = _
    by_cases e : t = k
    · subst e; simp [up, set1]
    · rw [up_other _ _ _ e]; simp [e, (h.2 t ht).1, set1]
  · show up s.dirty k true t = _
    by_cases e : t = k
    · subst e; simp [up, set1]
    · rw [up_other _ _ _ e]; simp [e, (h.2 t ht).2.2, set1]
theorem crash_tells {s : St} {f0 f1 : Nat → Int} {dd : Nat → Bool} (h : Tells2 s f0 f1 dd) (ok : s.Ok) (c : Cr) {t : Nat} (ht : t < 16) :
    (dd t = false → (s.crash c).now t = rep (f0 t)) ∧ (dd t = true → (s.crash c).now t = mix (c.kept (s.rank t)) (rep (f1 t)) (rep (f0 t))) := by
  obtain ⟨a, b, e⟩ := h.2 t ht
  have z : (s.crash c).now t = if s.dirty t = true then mix (c.kept (s.rank t)) (s.now t) (s.old t) else s.now t := rfl
  rw [z, e]
  constructor
  · intro q; rw [if_neg (by rw [q]; decide), ← ok.same t (by rw [e, q]), b]
  · intro q; rw [if_pos q, a, b]
theorem rank_le (s : St) (t : Nat) : s.rank t ≤ t := by
  have := List.countP_le_length (p := s.dirty) (l := List.range t)
  simpa [St.rank] using this
theorem kpC {W w' X : World} {a0 a1 a2 : Addr} {v0 v1 v2 : Value} (hb : Below W.heap.size W w') (hh : W.cell? a0 = some v0 ∧ W.cell? a1 = some v1 ∧ W.cell? a2 = some v2 ∧ Below X.heap.size X W) :
    w'.cell? a0 = some v0 ∧ w'.cell? a1 = some v1 ∧ w'.cell? a2 = some v2 ∧ Below X.heap.size X w' :=
  ⟨cell_keep hb hh.1, cell_keep hb hh.2.1, cell_keep hb hh.2.2.1, Bt hh.2.2.2 hb⟩
theorem set_row {W : World} {g : Nat} {t : TypeId} {n : Nat} {α : Type} {f : Nat → α} {V : α → Value} (R : Row W g t n (fun i => V (f i))) (k : Nat) (y : α) : Row (W.setCell ⟨g, k, none⟩ (V y)) g t n (fun i => V (set1 f k y i)) :=
  (R.set k _).say fun i hi => by
    by_cases e : i = k
    · rw [if_pos e]; simp [e, set1]
    · rw [if_neg e]; simp [e, set1]

set_option maxRecDepth 100000 in
set_option maxHeartbeats 8000000 in
theorem walk (v0 : Value) (r0 : List Int) (v1 : Value) (r1 : List Int) (a2f0 : Int) (w2f0 : (Lit.int .i64 a2f0).wf = true) (a2f1 : Int) (w2f1 : (Lit.int .i64 a2f1).wf = true) (a2f2 : Int) (w2f2 : (Lit.int .i64 a2f2).wf = true) (w : World) (hr0 : IntW.RdI w w.heap.size v0 r0) (o0 : IntW.Roomy v0) (f0 : IntW.Fits r0) (hr1 : IntW.RdI w w.heap.size v1 r1) (o1 : IntW.Roomy v1) (f1 : IntW.Fits r1) :
    Calls Try.prog 4 #[v0, v1, .agg #[.int .i64 a2f0, .int .i64 a2f1, .int .i64 a2f2]] w fun e w' => e = .returned (.bool true) ∧ Below w.heap.size w w' := by
  obtain ⟨A, c, rfl, hl, hA⟩ := hr0
  obtain ⟨n, hn⟩ : ∃ n, r0.length = n := ⟨_, rfl⟩
  rw [hn] at hl hA ⊢
  have HL := Lib.hid hl
  clear hn hl o0 f0
  obtain ⟨A', c', rfl, hl, hA'⟩ := hr1
  obtain ⟨n', hn⟩ : ∃ n, r1.length = n := ⟨_, rfl⟩
  rw [hn] at hl hA' ⊢
  have HL' := Lib.hid hl
  have HC := Lib.hid w2f0
  clear hn hl o1 f1 w2f0 w2f1 w2f2
  go_enter Try.func4, Try.ntmps4
  go_wp2_with fail
  refine (awake_any _).mono ?_
  rintro e w1 ⟨rfl, b⟩
  have q1 := (Blk.new w 33 #[.int .i64 a2f0, .int .i64 a2f1, .int .i64 a2f2]).keep b
  have B1 : Below w.heap.size w w1 := Bt (Ba B0) b
  have n0 := q1.lt
  clear b
  go_wp2_with fail
  refine (new_any _ 16 (by decide) (by decide)).mono ?_
  rintro e w2 ⟨d, h, m, rfl, K, nd, nh, nm, b⟩
  have q2 := q1.keep b
  have B2 := Bt B1 b
  have d1 := K.d_lt
  have d2 := K.h_lt
  have d3 := K.m_lt
  clear b q1 B1
  have hs : ∀ i, In3 d h m i → w.heap.size ≤ i := fun i e => by rcases e with rfl | rfl | rfl <;> omega
  have a4 : ¬ In3 d h m w.heap.size := fun e => by rcases e with e | e | e <;> omega
  have a5 : ∀ x, w2.heap.size ≤ x → ¬ In3 d h m x := fun x hx e => by rcases e with rfl | rfl | rfl <;> omega
  have ND : Hid (∀ x, w2.heap.size ≤ x → d ≠ x ∧ h ≠ x ∧ m ≠ x ∧ w.heap.size ≠ x) := Lib.hid (fun x hx => ⟨by omega, by omega, by omega, by omega⟩)
  have HW2 : Hid (w.heap.size ≤ w2.heap.size) := Lib.hid B2.size
  clear nd nh nm d1 d2 d3 n0
  go_upto_region 6 with fail
  have B4 : Below w.heap.size w (((w2.alloc (.cells #[.int .i64 0, .int .i64 0, .int .i64 0, .int .i64 0, .int .i64 0, .int .i64 0, .int .i64 0, .int .i64 0, .int .i64 0, .int .i64 0, .int .i64 0, .int .i64 0, .int .i64 0, .int .i64 0, .int .i64 0, .int .i64 0] 48)).alloc (.cells #[.int .i64 0, .int .i64 0, .int .i64 0, .int .i64 0, .int .i64 0, .int .i64 0, .int .i64 0, .int .i64 0, .int .i64 0, .int .i64 0, .int .i64 0, .int .i64 0, .int .i64 0, .int .i64 0, .int .i64 0, .int .i64 0] 48)).alloc (.cells #[.bool false, .bool false, .bool false, .bool false, .bool false, .bool false, .bool false, .bool false, .bool false, .bool false, .bool false, .bool false, .bool false, .bool false, .bool false, .bool false] 49)) := Ba (Ba (Ba B2))
  have K4 := ((K.alloc (.cells #[.int .i64 0, .int .i64 0, .int .i64 0, .int .i64 0, .int .i64 0, .int .i64 0, .int .i64 0, .int .i64 0, .int .i64 0, .int .i64 0, .int .i64 0, .int .i64 0, .int .i64 0, .int .i64 0, .int .i64 0, .int .i64 0] 48)).alloc (.cells #[.int .i64 0, .int .i64 0, .int .i64 0, .int .i64 0, .int .i64 0, .int .i64 0, .int .i64 0, .int .i64 0, .int .i64 0, .int .i64 0, .int .i64 0, .int .i64 0, .int .i64 0, .int .i64 0, .int .i64 0, .int .i64 0] 48)).alloc (.cells #[.bool false, .bool false, .bool false, .bool false, .bool false, .bool false, .bool false, .bool false, .bool false, .bool false, .bool false, .bool false, .bool false, .bool false, .bool false, .bool false] 49)
  have q4 := ((q2.alloc (.cells #[.int .i64 0, .int .i64 0, .int .i64 0, .int .i64 0, .int .i64 0, .int .i64 0, .int .i64 0, .int .i64 0, .int .i64 0, .int .i64 0, .int .i64 0, .int .i64 0, .int .i64 0, .int .i64 0, .int .i64 0, .int .i64 0] 48)).alloc (.cells #[.int .i64 0, .int .i64 0, .int .i64 0, .int .i64 0, .int .i64 0, .int .i64 0, .int .i64 0, .int .i64 0, .int .i64 0, .int .i64 0, .int .i64 0, .int .i64 0, .int .i64 0, .int .i64 0, .int .i64 0, .int .i64 0] 48)).alloc (.cells #[.bool false, .bool false, .bool false, .bool false, .bool false, .bool false, .bool false, .bool false, .bool false, .bool false, .bool false, .bool false, .bool false, .bool false, .bool false, .bool false] 49)
  have u0 : Row (((w2.alloc (.cells #[.int .i64 0, .int .i64 0, .int .i64 0, .int .i64 0, .int .i64 0, .int .i64 0, .int .i64 0, .int .i64 0, .int .i64 0, .int .i64 0, .int .i64 0, .int .i64 0, .int .i64 0, .int .i64 0, .int .i64 0, .int .i64 0] 48)).alloc (.cells #[.int .i64 0, .int .i64 0, .int .i64 0, .int .i64 0, .int .i64 0, .int .i64 0, .int .i64 0, .int .i64 0, .int .i64 0, .int .i64 0, .int .i64 0, .int .i64 0, .int .i64 0, .int .i64 0, .int .i64 0, .int .i64 0] 48)).alloc (.cells #[.bool false, .bool false, .bool false, .bool false, .bool false, .bool false, .bool false, .bool false, .bool false, .bool false, .bool false, .bool false, .bool false, .bool false, .bool false, .bool false] 49)) w2.heap.size 48 16 (fun t => .int .i64 ((fun _ => 0 : Nat → Int) t)) :=
    ((Row.new w2 _ (Arr.rep 16 (.int .i64 0)) rfl).alloc _).alloc _
  have u1 : Row (((w2.alloc (.cells #[.int .i64 0, .int .i64 0, .int .i64 0, .int .i64 0, .int .i64 0, .int .i64 0, .int .i64 0, .int .i64 0, .int .i64 0, .int .i64 0, .int .i64 0, .int .i64 0, .int .i64 0, .int .i64 0, .int .i64 0, .int .i64 0] 48)).alloc (.cells #[.int .i64 0, .int .i64 0, .int .i64 0, .int .i64 0, .int .i64 0, .int .i64 0, .int .i64 0, .int .i64 0, .int .i64 0, .int .i64 0, .int .i64 0, .int .i64 0, .int .i64 0, .int .i64 0, .int .i64 0, .int .i64 0] 48)).alloc (.cells #[.bool false, .bool false, .bool false, .bool false, .bool false, .bool false, .bool false, .bool false, .bool false, .bool false, .bool false, .bool false, .bool false, .bool false, .bool false, .bool false] 49)) (w2.heap.size + 1) 48 16 (fun t => .int .i64 ((fun _ => 0 : Nat → Int) t)) :=
    (Row.new _ _ (Arr.rep 16 (.int .i64 0)) (by simp)).alloc _
  have u2 : Row (((w2.alloc (.cells #[.int .i64 0, .int .i64 0, .int .i64 0, .int .i64 0, .int .i64 0, .int .i64 0, .int .i64 0, .int .i64 0, .int .i64 0, .int .i64 0, .int .i64 0, .int .i64 0, .int .i64 0, .int .i64 0, .int .i64 0, .int .i64 0] 48)).alloc (.cells #[.int .i64 0, .int .i64 0, .int .i64 0, .int .i64 0, .int .i64 0, .int .i64 0, .int .i64 0, .int .i64 0, .int .i64 0, .int .i64 0, .int .i64 0, .int .i64 0, .int .i64 0, .int .i64 0, .int .i64 0, .int .i64 0] 48)).alloc (.cells #[.bool false, .bool false, .bool false, .bool false, .bool false, .bool false, .bool false, .bool false, .bool false, .bool false, .bool false, .bool false, .bool false, .bool false, .bool false, .bool false] 49)) (w2.heap.size + 1 + 1) 49 16 (fun t => .bool ((fun _ => false : Nat → Bool) t)) :=
    Row.new _ _ (Arr.rep 16 (.bool false)) (by simp)
  generalize (((w2.alloc (.cells #[.int .i64 0, .int .i64 0, .int .i64 0, .int .i64 0, .int .i64 0, .int .i64 0, .int .i64 0, .int .i64 0, .int .i64 0, .int .i64 0, .int .i64 0, .int .i64 0, .int .i64 0, .int .i64 0, .int .i64 0, .int .i64 0] 48)).alloc (.cells #[.int .i64 0, .int .i64 0, .int .i64 0, .int .i64 0, .int .i64 0, .int .i64 0, .int .i64 0, .int .i64 0, .int .i64 0, .int .i64 0, .int .i64 0, .int .i64 0, .int .i64 0, .int .i64 0, .int .i64 0, .int .i64 0] 48)).alloc (.cells #[.bool false, .bool false, .bool false, .bool false, .bool false, .bool false, .bool false, .bool false, .bool false, .bool false, .bool false, .bool false, .bool false, .bool false, .bool false, .bool false] 49)) = w4 at *
  obtain ⟨g, hg⟩ : ∃ g, g = w2.heap.size := ⟨_, rfl⟩
  obtain ⟨g1, hg1⟩ : ∃ g1, g1 = w2.heap.size + 1 := ⟨_, rfl⟩
  obtain ⟨g2, hg2⟩ : ∃ g2, g2 = w2.heap.size + 1 + 1 := ⟨_, rfl⟩
  have G0 := ND.out g (by omega)
  have G1 := ND.out g1 (by omega)
  have G2 := ND.out g2 (by omega)
  have I0 := a5 g (by omega)
  have I1 := a5 g1 (by omega)
  have I2 := a5 g2 (by omega)
  have HG : Hid (w.heap.size ≤ g ∧ w.heap.size ≤ g1 ∧ w.heap.size ≤ g2 ∧ g ≠ g1 ∧ g ≠ g2 ∧ g1 ≠ g2) := Lib.hid (by have := HW2.out; refine ⟨?_, ?_, ?_, ?_, ?_, ?_⟩ <;> omega)
  have H0 := Lib.hid G0
  have H1 := Lib.hid G1
  have H2 := Lib.hid G2
  rw [← hg2, ← hg1, ← hg]
  rw [← hg] at u0
  rw [← hg1] at u1
  rw [← hg2] at u2
  clear hg hg1 hg2 G0 G1 G2 a5 ND K q2 B2 HW2
  go_wp2_with fail
  go_loopw [12] (fun i W => ∃ (j : Nat) (s1 : St) (f : Nat → Int), j ≤ n ∧ i = .int .i64 j ∧ Dk W d h m s1 ∧ Row W g 48 16 (fun t => .int .i64 (f t)) ∧ Row W g1 48 16 (fun t => .int .i64 ((fun _ => 0 : Nat → Int) t)) ∧ Row W g2 49 16 (fun t => .bool ((fun _ => false : Nat → Bool) t)) ∧ Hid (Tells s1 f) ∧ Blk W w.heap.size 33 #[.int .i64 a2f0, .int .i64 a2f1, .int .i64 a2f2] ∧ Below w.heap.size w W) (fun i _ => n - (Go.RowKit.intOf i).toNat)
  case atStart => exact ⟨0, fresh 16, fun _ => 0, Nat.zero_le _, rfl, K4, u0, u1, u2, Lib.hid ⟨rfl, fun t _ => rfl⟩, q4, B4⟩
  case round =>
    clear K4 u0 u1 u2 q4 B4
    obtain ⟨j, s1, f, hj, rfl, K1, R, R1, R2, T, Q, B⟩ := hrel
    obtain ⟨go, hgo⟩ := has_bool ((j : Int) < (n : Int) ∧ (j : Int) < 30)
    go_upto_region 7 with fail
    go_cut [36] (fun v wx => v = .bool go ∧ wx = wr)
    case first =>
      by_cases qI : (j : Int) < (n : Int)
      · go_wp2_with fail
        all_goals go_meet
        all_goals exact ⟨val_bool (by rw [← say_and hgo]; simp; try omega), rfl⟩
      · go_wp2_with fail
        all_goals go_meet
        all_goals exact ⟨val_bool (by rw [← say_and hgo]; simp; try omega), rfl⟩
    case rest =>
    obtain ⟨rfl, rfl⟩ := hcut
    cases go
    case true =>
      obtain ⟨hltI, h30I⟩ := hgo.out.1 rfl
      have hlt : j < n := by omega
      obtain ⟨b, off, rfl, hb, hcell⟩ := hA (by omega)
      have x0 := hcell j hlt
      have x0 := (B.cell (p := ⟨b, off + j, none⟩) hb).trans x0
      obtain ⟨x, hx⟩ : ∃ x, IntW.it r0 j = x := ⟨_, rfl⟩
      rw [hx] at x0
      clear hx hcell
      obtain ⟨k, hk, hk8⟩ := hash16 x
      obtain ⟨y, hy⟩ : ∃ y, bits .and .i64 (x / 16) 255 = y := ⟨_, rfl⟩
      have hk8I : (k : Int) < 16 := by omega
      have fz := R.frozen k
      have Rc := R.cell hk8
      go_upto_region 11 with fail
      have F : Fr (· = g) wc (wc.setCell ⟨g, k, none⟩ (.int .i64 y)) := Fr.of_set (S := (· = g)) _ rfl _
      have k1 := F.dk K1 H0.out.1 H0.out.2.1 H0.out.2.2.1
      have rr : Row (wc.setCell ⟨g, k, none⟩ (.int .i64 y)) g 48 16 (fun t => .int .i64 (set1 f k y t)) := set_row (V := fun z => .int .i64 z) R k y
      have rr1 := F.row R1 HG.out.2.2.2.1.symm
      have rr2 := F.row R2 HG.out.2.2.2.2.1.symm
      have qq := F.blk Q H0.out.2.2.2
      have bb : Below w.heap.size w (wc.setCell ⟨g, k, none⟩ (.int .i64 y)) := Bs B HG.out.1
      clear K1 R R1 R2 Q B fz Rc hk hy x0 F
      generalize wc.setCell ⟨g, k, none⟩ (.int .i64 y) = W1 at *
      have Rc : W1.cell? ⟨g, k, none⟩ = some (.int .i64 y) := by rw [rr.cell hk8]; simp [set1]
      go_wp2_with fail
      refine (sector_any _ y).mono ?_
      rintro e W2 ⟨rfl, b0⟩
      have k1 := k1.keep b0
      have rr := rr.keep b0
      have rr1 := rr1.keep b0
      have rr2 := rr2.keep b0
      have qq := qq.keep b0
      have bb := Bt bb b0
      clear b0 Rc
      have hkn : k < s1.n := by rw [T.out.1]; exact hk8
      go_wp2_with fail
      refine (write_in _ k1 k hkn (rep y) (rep_len y)).mono ?_
      rintro e W3 ⟨rfl, K1, F⟩
      have R := F.row rr I0
      have R1 := F.row rr1 I1
      have R2 := F.row rr2 I2
      have Q := F.blk qq a4
      have B := F.below bb hs
      have HT := Lib.hid (T.out.write k y)
      clear k1 rr rr1 rr2 qq bb F hkn
      go_wp2_with fail
      go_roundw
      case rel => exact ⟨j + 1, _, _, by omega, by go_num, K1, R, R1, R2, HT, Q, B⟩
      case measure => simp [Go.RowKit.intOf]; omega
    case false =>
      go_upto_region 12 with fail
      clear hA hgo
      go_wp2_with fail
      refine (sync_any _ K1).mono ?_
      rintro e W2 ⟨rfl, k1, F⟩
      have rr := F.row R I0
      have rr1 := F.row R1 I1
      have rr2 := F.row R2 I2
      have qq := F.blk Q a4
      have bb := F.below B hs
      have T2 := Lib.hid T.out.sync
      clear K1 R R1 R2 Q B F T
      generalize s1.sync = s2 at *
      obtain ⟨cs, hcs⟩ : ∃ cs : List Value, cs = (List.range 16).map (fun t => .int .i64 (f t)) := ⟨_, rfl⟩
      have hcl : cs.length = 16 := by rw [hcs]; simp
      have hca : ∀ t, t < 16 → cs[t]? = some (.int .i64 (f t)) := fun t ht => by rw [hcs]; simp [ht]
      have hrg : W2.rangeAt g 0 cs := by
        refine row_range rr (by rw [hcl]; decide) (fun t v hv => ?_)
        have h1 := (List.getElem?_eq_some_iff.1 hv).1
        rw [hcl] at h1
        rw [hca t h1] at hv
        rw [Nat.zero_add]; exact Option.some.inj hv
      have hth : W2.there g1 0 cs.toArray.size := by
        have := row_there (o := 0) (m := 16) rr1 (by omega)
        simpa [hcl] using this
      have hon : ∀ v ∈ cs, v.oneCell' = true := fun v hv => by
        rw [hcs] at hv
        obtain ⟨t, -, rfl⟩ := List.mem_map.1 hv
        rfl
      have hin : (Try.prog.info? 48).map (·.size) = some 16 := by kernel_rfl
      go_upto_region 13 with fail
      have hca' : ∀ t, t < 16 → cs[t]? = some (.int .i64 (f t)) := hca
      clear hcs hca
      go_upto_region 14 with (first
        | (refine wpList_load_mid rfl 48 _ rfl g 0 rfl cs _ hrg Try.underlying48 rfl (by rw [hin, hcl]) ?_)
        | (refine wpList_store_mid rfl 48 _ _ rfl g1 0 cs.toArray rfl rfl hth (by rw [hin]; simp [hcl]) (all_oneCell_toArray hon) ?_))
      have u1 : Row (W2.setCells g1 0 cs) g1 48 16 (fun t => .int .i64 (f t)) := (row_sets cs 0 W2 _ rr1).say fun t ht => by
        rw [if_pos (by rw [hcl]; omega), Nat.sub_zero]
        simp [List.getD, hca' t ht]
      have F : Fr (· = g1) W2 (W2.setCells g1 0 cs) := Fr.of_sets (S := (· = g1)) rfl _ _ _
      have K1 := F.dk k1 H1.out.1 H1.out.2.1 H1.out.2.2.1
      have R := F.row rr HG.out.2.2.2.1
      have R2 := F.row rr2 HG.out.2.2.2.2.2.symm
      have Q := F.blk qq H1.out.2.2.2
      have B : Below w.heap.size w (W2.setCells g1 0 cs) := F.below bb fun i e => by rw [e]; exact HG.out.2.1
      clear k1 rr rr1 rr2 qq bb F hca' hcl
      generalize W2.setCells g1 0 cs = W3 at *
      go_wp2_with fail
      go_loopw [15] (fun i W => ∃ (j : Nat) (s3 : St) (f1 : Nat → Int) (dd : Nat → Bool), j ≤ n' ∧ i = .int .i64 j ∧ Dk W d h m s3 ∧ Row W g 48 16 (fun t => .int .i64 (f t)) ∧ Row W g1 48 16 (fun t => .int .i64 (f1 t)) ∧ Row W g2 49 16 (fun t => .bool (dd t)) ∧ Hid (Tells2 s3 f f1 dd) ∧ Blk W w.heap.size 33 #[.int .i64 a2f0, .int .i64 a2f1, .int .i64 a2f2] ∧ Below w.heap.size w W) (fun i _ => n' - (Go.RowKit.intOf i).toNat)
      case atStart => exact ⟨0, s2, f, fun _ => false, Nat.zero_le _, rfl, K1, R, u1, R2, T2, Q, B⟩
      case round =>
        clear K1 R u1 R2 Q B T2
        obtain ⟨j, s3, f1, dd, hj, rfl, K1, R, R1, R2, T, Q, B⟩ := hrel
        obtain ⟨go, hgo⟩ := has_bool ((j : Int) < (n' : Int) ∧ (j : Int) < 30)
        go_upto_region 15 with fail
        go_cut [69] (fun v wx => v = .bool go ∧ wx = wr)
        case first =>
          by_cases qI : (j : Int) < (n' : Int)
          · go_wp2_with fail
            all_goals go_meet
            all_goals exact ⟨val_bool (by rw [← say_and hgo]; simp; try omega), rfl⟩
          · go_wp2_with fail
            all_goals go_meet
            all_goals exact ⟨val_bool (by rw [← say_and hgo]; simp; try omega), rfl⟩
        case rest =>
        obtain ⟨rfl, rfl⟩ := hcut
        cases go
        case true =>
          obtain ⟨hltI, h30I⟩ := hgo.out.1 rfl
          have hlt : j < n' := by omega
          obtain ⟨b, off, rfl, hb, hcell⟩ := hA' (by omega)
          have x0 := hcell j hlt
          have x0 := (B.cell (p := ⟨b, off + j, none⟩) hb).trans x0
          obtain ⟨x, hx⟩ : ∃ x, IntW.it r1 j = x := ⟨_, rfl⟩
          rw [hx] at x0
          clear hx hcell
          obtain ⟨k, hk, hk8⟩ := hash16 x
          obtain ⟨y, hy⟩ : ∃ y, bits .and .i64 (x / 16) 255 = y := ⟨_, rfl⟩
          have hk8I : (k : Int) < 16 := by omega
          have fz := R1.frozen k
          have Rc := R1.cell hk8
          go_upto_region 19 with fail
          have F : Fr (· = g1) wc (wc.setCell ⟨g1, k, none⟩ (.int .i64 y)) := Fr.of_set (S := (· = g1)) _ rfl _
          have k1 := F.dk K1 H1.out.1 H1.out.2.1 H1.out.2.2.1
          have rr1 : Row (wc.setCell ⟨g1, k, none⟩ (.int .i64 y)) g1 48 16 (fun t => .int .i64 (set1 f1 k y t)) := set_row (V := fun z => .int .i64 z) R1 k y
          have rr := F.row R HG.out.2.2.2.1
          have rr2 := F.row R2 HG.out.2.2.2.2.2.symm
          have qq := F.blk Q H1.out.2.2.2
          have bb : Below w.heap.size w (wc.setCell ⟨g1, k, none⟩ (.int .i64 y)) := Bs B HG.out.2.1
          clear K1 R R1 R2 Q B fz Rc hk hy x0 F
          generalize wc.setCell ⟨g1, k, none⟩ (.int .i64 y) = W1 at *
          have fz := rr2.frozen k
          have Rc := rr2.cell hk8
          go_upto_region 20 with fail
          have F : Fr (· = g2) W1 (W1.setCell ⟨g2, k, none⟩ (.bool true)) := Fr.of_set (S := (· = g2)) _ rfl _
          have K1 := F.dk k1 H2.out.1 H2.out.2.1 H2.out.2.2.1
          have R2 : Row (W1.setCell ⟨g2, k, none⟩ (.bool true)) g2 49 16 (fun t => .bool (set1 dd k true t)) := set_row (V := fun z => .bool z) rr2 k true
          have R := F.row rr HG.out.2.2.2.2.1
          have R1 := F.row rr1 HG.out.2.2.2.2.2
          have Q := F.blk qq H2.out.2.2.2
          have B : Below w.heap.size w (W1.setCell ⟨g2, k, none⟩ (.bool true)) := Bs bb HG.out.2.2.1
          clear k1 rr rr1 rr2 qq bb fz Rc F
          generalize W1.setCell ⟨g2, k, none⟩ (.bool true) = W2 at *
          have Rc : W2.cell? ⟨g1, k, none⟩ = some (.int .i64 y) := by rw [R1.cell hk8]; simp [set1]
          go_wp2_with fail
          refine (sector_any _ y).mono ?_
          rintro e W4 ⟨rfl, b0⟩
          have k1 := K1.keep b0
          have rr := R.keep b0
          have rr1 := R1.keep b0
          have rr2 := R2.keep b0
          have qq := Q.keep b0
          have bb := Bt B b0
          clear b0 Rc K1 R R1 R2 Q B
          have hkn : k < s3.n := by rw [T.out.1]; exact hk8
          go_wp2_with fail
          refine (write_in _ k1 k hkn (rep y) (rep_len y)).mono ?_
          rintro e W5 ⟨rfl, K1, F⟩
          have R := F.row rr I0
          have R1 := F.row rr1 I1
          have R2 := F.row rr2 I2
          have Q := F.blk qq a4
          have B := F.below bb hs
          have HT := Lib.hid (T.out.write k y)
          clear k1 rr rr1 rr2 qq bb F hkn
          go_wp2_with fail
          go_roundw
          case rel => exact ⟨j + 1, _, _, _, by omega, by go_num, K1, R, R1, R2, HT, Q, B⟩
          case measure => simp [Go.RowKit.intOf]; omega
        case false =>
          go_upto_region 21 with fail
          clear hA' hgo
          have o0 : wc.cell? ⟨w.heap.size, 0, none⟩ = some (.int .i64 a2f0) := by rw [Q.cell]; rfl
          have o1 : wc.cell? ⟨w.heap.size, 1, none⟩ = some (.int .i64 a2f1) := by rw [Q.cell]; rfl
          have o2 : wc.cell? ⟨w.heap.size, 2, none⟩ = some (.int .i64 a2f2) := by rw [Q.cell]; rfl
          by_cases hb : 0 ≤ a2f2 ∧ a2f2 ≤ 64
          · obtain ⟨b0, b1⟩ := hb
            go_wp2_with fail
            refine (crash_in _ K1 ⟨a2f0, a2f1, a2f2⟩ HC.out b0 b1).mono ?_
            rintro e W2 ⟨rfl, k4, F⟩
            have rr := F.row R I0
            have rr1 := F.row R1 I1
            have rr2 := F.row R2 I2
            have qq := F.blk Q a4
            have bb := F.below B hs
            have HOK := Lib.hid K1.ok
            have HS4 := Lib.hid (fun t ht => crash_tells T.out K1.ok ⟨a2f0, a2f1, a2f2⟩ (t := t) ht)
            have hn4 : (s3.crash ⟨a2f0, a2f1, a2f2⟩).n = 16 := T.out.1
            have hc4 : (s3.crash ⟨a2f0, a2f1, a2f2⟩).cnt = 0 := St.cnt_sync _
            generalize s3.crash ⟨a2f0, a2f1, a2f2⟩ = s4 at *
            clear K1 R R1 R2 Q B F o0 o1 o2 I0 I1 I2 a4 hs
            have o2 : W2.cell? ⟨w.heap.size, 2, none⟩ = some (.int .i64 a2f2) := by rw [qq.cell]; rfl
            have EE := ne_str
            have EG := ne_guard
            go_wp2_with fail
            go_loopw [18, 19] (fun a i W => ∃ t : Nat, t ≤ 16 ∧ i = .int .i64 t ∧ a = .int .i64 (s3.rank t) ∧ Dk W d h m s4 ∧ Row W g 48 16 (fun t => .int .i64 (f t)) ∧ Row W g1 48 16 (fun t => .int .i64 (f1 t)) ∧ Row W g2 49 16 (fun t => .bool (dd t)) ∧ Blk W w.heap.size 33 #[.int .i64 a2f0, .int .i64 a2f1, .int .i64 a2f2] ∧ Below w.heap.size w W) (fun _ i _ => 16 - (Go.RowKit.intOf i).toNat)
            case atStart => exact ⟨0, by omega, rfl, rfl, k4, rr, rr1, rr2, qq, bb⟩
            case round =>
              clear k4 rr rr1 rr2 qq bb o2
              obtain ⟨t, ht, rfl, rfl, K, R, R1, R2, Q, B⟩ := hrel
              by_cases hlt : t < 16
              · have hltI : (t : Int) < 16 := by omega
                have Rc := R.cell hlt
                go_wp2_with fail
                refine (sector_any _ (f t)).mono ?_
                rintro e W4 ⟨rfl, b⟩
                have K := K.keep b
                have R := R.keep b
                have R1 := R1.keep b
                have R2 := R2.keep b
                have Q := Q.keep b
                have B := Bt B b
                clear b Rc
                have x0 := R2.cell hlt
                have x1 := R.cell hlt
                have x2 := R1.cell hlt
                have o0 : W4.cell? ⟨w.heap.size, 0, none⟩ = some (.int .i64 a2f0) := by rw [Q.cell]; rfl
                have o1 : W4.cell? ⟨w.heap.size, 1, none⟩ = some (.int .i64 a2f1) := by rw [Q.cell]; rfl
                have o2 : W4.cell? ⟨w.heap.size, 2, none⟩ = some (.int .i64 a2f2) := by rw [Q.cell]; rfl
                obtain ⟨ρ', hρ'⟩ : ∃ ρ', s3.rank (t + 1) = ρ' := ⟨_, rfl⟩
                have hst := s3.rank_succ t
                rw [hρ', (T.out.2 t hlt).2.2] at hst
                have hrl : s3.rank t ≤ t := rank_le s3 t
                obtain ⟨ρ, hρ⟩ : ∃ ρ, s3.rank t = ρ := ⟨_, rfl⟩
                have hS := HS4.out t hlt
                obtain ⟨S, hSS⟩ : ∃ S, s4.now t = S := ⟨_, rfl⟩
                rw [hSS] at hS
                rw [hρ] at hst hrl hS ⊢
                have HST := Lib.hid hst
                have HSS := Lib.hid hSS
                have HS := Lib.hid hS
                have HR := Lib.hid hρ'
                have hρ30 : (ρ : Int) < 30 := by omega
                have hρ0 : ρ < 62 := by omega
                clear hρ hst hρ' hrl hS hSS
                go_upto_if 118 with fail
                go_cut [18, 20] (fun at_ want wx => at_ = .int .i64 (ρ' : Int) ∧ want = strV S ∧ Below W4.heap.size W4 wx)
                case first =>
                  cases hd : dd t
                  · rw [hd] at x0
                    have e1 : ρ' = ρ := by have := HST.out; rw [hd] at this; simpa using this
                    have e2 : S = rep (f t) := HS.out.1 hd
                    subst e1
                    subst e2
                    go_wp2_with fail
                    go_meet
                    exact ⟨rfl, rfl, B0⟩
                  · rw [hd] at x0
                    have e1 : ρ' = ρ + 1 := by have := HST.out; rw [hd] at this; simpa using this
                    have e2 : S = mix (Cr.kept ⟨a2f0, a2f1, a2f2⟩ ρ) (rep (f1 t)) (rep (f t)) := HS.out.2 hd
                    have HE1 := Lib.hid e1
                    have HE2 := Lib.hid e2
                    clear e1 e2 hd
                    by_cases h1 : (ρ : Int) = a2f1
                    · subst h1
                      obtain ⟨bn, hbn⟩ : ∃ bn : Nat, a2f2 = (bn : Int) := ⟨a2f2.toNat, by omega⟩
                      subst hbn
                      have c1 := cut_hi (rep (f1 t)) bn (by rw [rep_len]; omega)
                      have c2 := cut_lo (rep (f t)) bn (by rw [rep_len]; omega)
                      have c3 := add_str ((rep (f1 t)).take bn) ((rep (f t)).drop bn) (by rw [List.length_take, List.length_drop, rep_len, rep_len]; omega)
                      have HE3 : Hid (S = (rep (f1 t)).take bn ++ (rep (f t)).drop bn) := Lib.hid (by
                        rw [HE2.out]; unfold Cr.kept; rw [if_pos rfl]; rfl)
                      go_upto_region 31 with fail
                      go_region_held3 (fun w' => w'.cell? ⟨g, t, none⟩ = some (.int .i64 (f t)) ∧ w'.cell? ⟨g1, t, none⟩ = some (.int .i64 (f1 t)) ∧ w'.cell? ⟨w.heap.size, 2, none⟩ = some (.int .i64 (bn : Int)) ∧ Below W4.heap.size W4 w')
                        (first | exact ⟨x1, x2, o2, Bd B0⟩ | exact kpC (by assumption) (by assumption) | assumption | go_keep)
                        (first | (go_at_call 23; (with_reducible refine (sector_any _ _).mono ?_); rintro e wA ⟨rfl, hbA⟩))
                      all_goals go_wp2_with fail
                      all_goals go_meet
                      all_goals exact ⟨val_int (by rw [HE1.out]; omega), by rw [HE3.out], Bt (Bt (Bd B0) (by assumption)) hbA⟩
                    · obtain ⟨q, hq⟩ : ∃ q, bits .and .i64 (a2f0 / 2 ^ ρ) 1 = q := ⟨_, rfl⟩
                      have hq2 : bit a2f0 ρ = decide (q = 1) := by unfold bit; rw [← hq, and1]
                      have HQ := Lib.hid hq2
                      clear hq2
                      by_cases h3 : q = 1
                      · subst h3
                        have HE3 : Hid (S = rep (f1 t)) := Lib.hid (by
                          have kk : Cr.kept ⟨a2f0, a2f1, a2f2⟩ ρ = 64 := by
                            unfold Cr.kept
                            rw [if_neg h1, if_pos ⟨hρ0, by show bit a2f0 ρ = true; rw [HQ.out]; rfl⟩]
                          rw [HE2.out, kk, mix_all (rep_len _) (rep_len _)])
                        go_wp2_with fail
                        refine (sector_any _ (f1 t)).mono ?_
                        rintro e wA ⟨rfl, hbA⟩
                        go_wp2_with fail
                        go_meet
                        exact ⟨val_int (by rw [HE1.out]; omega), by rw [HE3.out], hbA⟩
                      · have HE3 : Hid (S = rep (f t)) := Lib.hid (by
                          have kk : Cr.kept ⟨a2f0, a2f1, a2f2⟩ ρ = 0 := by
                            unfold Cr.kept
                            rw [if_neg h1, if_neg (fun e => by have e2 : bit a2f0 ρ = true := e.2; rw [HQ.out] at e2; simp at e2; exact h3 e2)]
                          rw [HE2.out, kk, mix_none])
                        go_wp2_with fail
                        go_meet
                        exact ⟨val_int (by rw [HE1.out]; omega), by rw [HE3.out], B0⟩
                case rest =>
                obtain ⟨rfl, rfl, b⟩ := hcut
                have K := K.keep b
                have R := R.keep b
                have R1 := R1.keep b
                have R2 := R2.keep b
                have Q := Q.keep b
                have B := Bt B b
                clear b x0 x1 x2 o0 o1 o2
                have hts : t < s4.n := by rw [hn4]; exact hlt
                go_wp2_with fail
                refine (read_in _ K t hts).mono ?_
                rintro e W6 ⟨rfl, rfl⟩
                rw [HSS.out]
                go_wp2_with (first | (go_at_call 9; refine (num_any _ _).mono ?_; rintro e w' ⟨rfl, rfl⟩))
                go_roundw
                case rel => exact ⟨t + 1, by omega, by go_num, by rw [HR.out], K, R, R1, R2, Q, B⟩
                case measure => simp [Go.RowKit.intOf]; omega
              · obtain rfl : t = 16 := by omega
                go_wp2_with (first | (go_at_call 9; refine (num_any _ _).mono ?_; rintro e w' ⟨rfl, rfl⟩))
                refine (dirty_any _ K).mono ?_
                rintro e W6 ⟨rfl, rfl⟩
                rw [hc4]
                go_wp2_with fail
                go_ret
                exact ⟨rfl, B⟩
          · go_wp2_with fail
            refine (crash_out _ K1 a2f0 a2f1 a2f2 hb).mono ?_
            rintro e W2 ⟨rfl, b⟩
            have Q := Q.keep b
            have B := Bt B b
            have o2 : W2.cell? ⟨w.heap.size, 2, none⟩ = some (.int .i64 a2f2) := by rw [Q.cell]; rfl
            clear K1 R R1 R2 Q b o0 o1
            by_cases h0 : a2f2 < 0
            · go_wp2_with (first | (go_at_call 9; refine (num_any _ _).mono ?_; rintro e w' ⟨rfl, rfl⟩))
              go_ret
              exact ⟨rfl, B⟩
            · have h1 : 64 < a2f2 := by omega
              go_wp2_with (first | (go_at_call 9; refine (num_any _ _).mono ?_; rintro e w' ⟨rfl, rfl⟩))
              go_ret
              exact ⟨rfl, B⟩

set_option maxRecDepth 100000 in
theorem lifted (os : Os) (started : os.Started) (H : Type) (enc : TypeId × Value → H) :
    ReturnsInHanded {} Try.checked os 4 .any (Rows.diskCrashesSpec.pre6 enc Try.prog Try.f4 Rows.diskCrashesRow.domain false) (Rows.diskCrashesSpec.post enc Try.prog Try.f4 false true false false) := by
  refine returnsInHanded_of_change (C := Try.checked) own started (by kernel_rfl) Try.func4
    (ChangeSpec.witness6 (enc := enc) (C := Try.checked) false ⟨#[], #[.slice none 0 0, .slice none 0 0, .agg #[.int .i64 0, .int .i64 0, .int .i64 0]], []⟩ 8 (by kernel_rfl) (by kernel_rfl) (by kernel_rfl) (by kernel_rfl)) ?_
  intro W base args ds gs before hval0 hW hcnd _
  have hval : ∀ (j : Nat) t v, Try.f4.params[j]? = some t → args[j]? = some v → Value.okWide Try.prog W .any base t v := hval0
  have hW' := hW
  obtain ⟨p, q, hA0, hV, rfl, hfz, hnd⟩ := hW
  have hA : DataW.TrodAll enc Try.prog W 0 (fun _ => true) true Try.f4.params.toList args.toList ds p := hA0
  rw [Try.params4] at hA hval
  obtain ⟨v0, vs0, d0, ds0, p0, q0, hargs, rfl, rfl, h0, r0⟩ := trodAll_cons hA
  obtain ⟨v1, vs1, d1, ds1, p1, q1, rfl, rfl, rfl, h1, r1⟩ := trodAll_cons r0
  obtain ⟨v2, vs2, d2, ds2, p2, q2, rfl, rfl, rfl, h2, r2⟩ := trodAll_cons r1
  obtain ⟨rfl, rfl, rfl⟩ := trodAll_nil r2
  obtain rfl : args = #[v0, v1, v2] := by cases args; simp_all
  obtain ⟨rfl, rfl⟩ := trodVars_none hV
  have k0 := h0
  have lt0 : ∀ x ∈ p0, x.block < W.heap.size := by obtain ⟨m, hm⟩ := k0; exact DataW.trod_lt m _ _ _ hm
  have k1 := h1
  have lt1 : ∀ x ∈ p1, x.block < W.heap.size := by obtain ⟨m, hm⟩ := k1; exact DataW.trod_lt m _ _ _ hm
  have k2 := h2
  have lt2 : ∀ x ∈ p2, x.block < W.heap.size := by obtain ⟨m, hm⟩ := k2; exact DataW.trod_lt m _ _ _ hm
  obtain ⟨rs0, hrs0, ro0, fi0⟩ := IntW.open_ints (hval 0 47 v0 rfl rfl) h0
  obtain ⟨rs1, hrs1, ro1, fi1⟩ := IntW.open_ints (hval 1 47 v1 rfl rfl) h1
  obtain ⟨c2f0, c2f1, c2f2, y2f0, y2f1, y2f2, m2, rfl, rfl, rfl, hy2f0, hy2f1, hy2f2⟩ := open_agg3 Try.underlying33 (by kernel_rfl) (by kernel_rfl) (hval 2 33 v2 rfl rfl) h2
  obtain ⟨a2f0, e2f0, rfl, w2f0⟩ := DataW.trod_int Try.underlying3 hy2f0
  simp at e2f0
  subst e2f0
  obtain ⟨a2f1, e2f1, rfl, w2f1⟩ := DataW.trod_int Try.underlying3 hy2f1
  simp at e2f1
  subst e2f1
  obtain ⟨a2f2, e2f2, rfl, w2f2⟩ := DataW.trod_int Try.underlying3 hy2f2
  simp at e2f2
  subst e2f2
  clear hA0 hval0
  refine (walk v0 rs0 v1 rs1 a2f0 w2f0 a2f1 w2f1 a2f2 w2f2 W hrs0 ro0 fi0 hrs1 ro1 fi1).mono fun e W' ⟨he, bel⟩ => ?_
  subst he
  exact ⟨_, rfl, _, _, _, [], _, [], hW', trodAll_mk1 (shut_bool Try.underlying4 _), (trodAll_cons_mk (Below.trod laidOut (by kernel_rfl) (of_decide_eq_true (by kernel_rfl)) k0 bel lt0) (trodAll_cons_mk (Below.trod laidOut (by kernel_rfl) (of_decide_eq_true (by kernel_rfl)) k1 bel lt1) (trodAll_cons_mk (Below.trod laidOut (by kernel_rfl) (of_decide_eq_true (by kernel_rfl)) k2 bel lt2) trodAll_mk0))), rfl, bel.frame _, fun h => by cases h⟩

theorem proved : Rows.DiskCrashesSaid :=
  OpenClaim.holds_of_wide 4 Try.f4 rfl rfl rfl rfl rfl rfl rfl ⟨rfl, rfl, rfl, rfl, rfl⟩ rfl rfl rfl rfl rfl (by kernel_rfl) Try.func4 (by kernel_rfl)
    (of_decide_eq_true (by kernel_rfl)) (by unfold Func.isWrapper; first | (rw [if_pos (by decide +kernel)]; kernel_rfl) | (rw [if_neg (by decide +kernel)]; exact ⟨rfl, rfl⟩))
    (fun os started H enc _ => lifted os started H enc)
#print axioms proved
end Go.Proofs.Ytabecmbeenmjaaa.diskCrashes
