/-
  For any row of writes and any crash, a sector holds what was written last, a sync keeps it, and two disks do not know of one another: the law DiskLast returns true.
-/
import Derived.Test.YtabecmbeenmjaaaRows
import Derived.Test.YtabecmbeenmjaaaDkAwake
import Derived.Test.YtabecmbeenmjaaaDkForm
import Derived.Test.YtabecmbeenmjaaaIntOpen
import Derived.WalkKit
import Derived.BigQuiet
import Derived.ProofKit
import Derived.OpenShut
import Derived.ShutString
import Derived.ChangeOld
import Derived.Below
import Derived.Lib.SmallJoins
namespace Go.Proofs.Ytabecmbeenmjaaa.diskLast
open Go.ChangeShapes Go.WideShapes Go.ChangeAt Go.RowKit Go.Joins
open Go.ChangeMaps (open_string shut_string)
set_option linter.all false

theorem own : ownKnob Try.prog.godebug = none := by kernel_rfl
theorem laidOut : laidOutB Try.prog = true := by kernel_rfl

open WideW DiskW
theorem hash8 (n : Int) : ∃ k : Nat, bits .and .i64 n 7 = (k : Int) ∧ k < 8 := by
  rw [and7]
  have p1 : 0 ≤ n % 8 := Int.emod_nonneg _ (by decide)
  have p2 : n % 8 < 8 := Int.emod_lt_of_pos _ (by decide)
  exact ⟨(n % 8).toNat, by omega, by omega⟩
/-- What the first disk holds is what the row tells. -/
def Tells (s : St) (f : Nat → Int) : Prop := s.n = 8 ∧ ∀ t, t < 8 → s.now t = rep (f t)
theorem Tells.write {s : St} {f : Nat → Int} (h : Tells s f) (k : Nat) (y : Int) : Tells (s.write k (rep y)) (fun t => if t = k then y else f t) := by
  refine ⟨h.1, fun t ht => ?_⟩
  show up s.now k (rep y) t = _
  by_cases e : t = k
  · subst e; simp [up]
  · rw [up_other _ _ _ e]; simp [e, h.2 t ht]

set_option maxRecDepth 100000 in
set_option maxHeartbeats 4000000 in
theorem walk (v0 : Value) (r0 : List Int) (a1f0 : Int) (w1f0 : (Lit.int .i64 a1f0).wf = true) (a1f1 : Int) (w1f1 : (Lit.int .i64 a1f1).wf = true) (a1f2 : Int) (w1f2 : (Lit.int .i64 a1f2).wf = true) (w : World) (hr0 : IntW.RdI w w.heap.size v0 r0) (o0 : IntW.Roomy v0) (f0 : IntW.Fits r0) :
    Calls Try.prog 6 #[v0, .agg #[.int .i64 a1f0, .int .i64 a1f1, .int .i64 a1f2]] w fun e w' => e = .returned (.bool true) ∧ Below w.heap.size w w' := by
  obtain ⟨A, c, rfl, hl, hA⟩ := hr0
  obtain ⟨n, hn⟩ : ∃ n, r0.length = n := ⟨_, rfl⟩
  rw [hn] at hl hA ⊢
  have HL := Lib.hid hl
  have HC := Lib.hid w1f0
  clear hn hl o0 f0 w1f0 w1f1 w1f2
  go_enter Try.func6, Try.ntmps6
  go_wp2_with fail
  refine (awake_any _).mono ?_
  rintro e w1 ⟨rfl, b⟩
  have q1 := (Blk.new w 33 #[.int .i64 a1f0, .int .i64 a1f1, .int .i64 a1f2]).keep b
  have B1 : Below w.heap.size w w1 := Bt (Ba B0) b
  have n0 := q1.lt
  clear b
  go_wp2_with fail
  refine (new_any _ 8 (by decide) (by decide)).mono ?_
  rintro e w2 ⟨d, h, m, rfl, K, nd, nh, nm, b⟩
  have q2 := q1.keep b
  have B2 := Bt B1 b
  have d1 := K.d_lt
  have d2 := K.h_lt
  have d3 := K.m_lt
  clear b
  go_wp2_with fail
  refine (new_any _ 8 (by decide) (by decide)).mono ?_
  rintro e w3 ⟨d', h', m', rfl, K', nd', nh', nm', b⟩
  have K3 := K.keep b
  have q3 := q2.keep b
  have B3 := Bt B2 b
  have e1 := K'.d_lt
  have e2 := K'.h_lt
  have e3 := K'.m_lt
  clear b
  have NA : ∀ x, In3 d h m x → w.heap.size < x ∧ x < w2.heap.size := fun x e => by rcases e with rfl | rfl | rfl <;> omega
  have NB : ∀ x, In3 d' h' m' x → w2.heap.size ≤ x ∧ x < w3.heap.size := fun x e => by rcases e with rfl | rfl | rfl <;> omega
  have hs : ∀ i, In3 d h m i → w.heap.size ≤ i := fun i e => by have := NA i e; omega
  have hs' : ∀ i, In3 d' h' m' i → w.heap.size ≤ i := fun i e => by have := NB i e; have := B2.size; omega
  have z32 : w2.heap.size ≤ w3.heap.size := by omega
  have z02 : w.heap.size < w2.heap.size := by omega
  have a1 : ¬ In3 d h m d' := fun e => by have := NA _ e; have := NB d' (.inl rfl); omega
  have a2 : ¬ In3 d h m h' := fun e => by have := NA _ e; have := NB h' (.inr (.inl rfl)); omega
  have a3 : ¬ In3 d h m m' := fun e => by have := NA _ e; have := NB m' (.inr (.inr rfl)); omega
  have a4 : ¬ In3 d h m w.heap.size := fun e => by have := NA _ e; omega
  have a5 : ¬ In3 d h m w3.heap.size := fun e => by have := NA _ e; omega
  have b1 : ¬ In3 d' h' m' d := fun e => by have := NB _ e; have := NA d (.inl rfl); omega
  have b2 : ¬ In3 d' h' m' h := fun e => by have := NB _ e; have := NA h (.inr (.inl rfl)); omega
  have b3 : ¬ In3 d' h' m' m := fun e => by have := NB _ e; have := NA m (.inr (.inr rfl)); omega
  have b4 : ¬ In3 d' h' m' w.heap.size := fun e => by have := NB _ e; omega
  have b5 : ¬ In3 d' h' m' w3.heap.size := fun e => by have := NB _ e; omega
  have hsz0 : w.heap.size < w3.heap.size := by omega
  clear K q1 q2 B1 B2 nd nh nm nd' nh' nm' d1 d2 d3 e1 e2 e3 n0 NA NB z02 z32
  go_wp2_with fail
  have B4 : Below w.heap.size w (w3.alloc (.cells #[.int .i64 0, .int .i64 0, .int .i64 0, .int .i64 0, .int .i64 0, .int .i64 0, .int .i64 0, .int .i64 0] 55)) := Ba B3
  have q4 := q3.alloc (.cells #[.int .i64 0, .int .i64 0, .int .i64 0, .int .i64 0, .int .i64 0, .int .i64 0, .int .i64 0, .int .i64 0] 55)
  have K4 := K3.alloc (.cells #[.int .i64 0, .int .i64 0, .int .i64 0, .int .i64 0, .int .i64 0, .int .i64 0, .int .i64 0, .int .i64 0] 55)
  have K4' := K'.alloc (.cells #[.int .i64 0, .int .i64 0, .int .i64 0, .int .i64 0, .int .i64 0, .int .i64 0, .int .i64 0, .int .i64 0] 55)
  have r4 : Row (w3.alloc (.cells #[.int .i64 0, .int .i64 0, .int .i64 0, .int .i64 0, .int .i64 0, .int .i64 0, .int .i64 0, .int .i64 0] 55)) w3.heap.size 55 8 (fun t => .int .i64 ((fun _ => 0 : Nat → Int) t)) :=
    Row.new w3 _ (Arr.rep 8 (.int .i64 0)) rfl
  clear K3 K' q3
  obtain ⟨g, hg⟩ : ∃ g, g = w3.heap.size := ⟨_, rfl⟩
  have gw : Hid (w.heap.size ≤ g) := Lib.hid (by rw [hg]; exact B3.size)
  have gd : Hid (d ≠ g ∧ h ≠ g ∧ m ≠ g ∧ d' ≠ g ∧ h' ≠ g ∧ m' ≠ g ∧ w.heap.size ≠ g) := Lib.hid (by
    rw [← hg] at a5 b5
    refine ⟨fun e => a5 (.inl e.symm), fun e => a5 (.inr (.inl e.symm)), fun e => a5 (.inr (.inr e.symm)), fun e => b5 (.inl e.symm), fun e => b5 (.inr (.inl e.symm)), fun e => b5 (.inr (.inr e.symm)), ?_⟩
    rw [hg]; have := q4.lt; have h2 := hsz0; omega)
  rw [← hg] at a5 b5 r4 ⊢
  clear hg hsz0
  generalize (w3.alloc (.cells #[.int .i64 0, .int .i64 0, .int .i64 0, .int .i64 0, .int .i64 0, .int .i64 0, .int .i64 0, .int .i64 0] 55)) = w4 at *
  clear B3
  have EE := ne_str
  have EG := ne_guard
  go_loopw [10] (fun i W => ∃ (j : Nat) (s1 s2 : St) (f : Nat → Int), j ≤ n ∧ i = .int .i64 j ∧ Dk W d h m s1 ∧ Dk W d' h' m' s2 ∧ s2.n = 8 ∧ Row W g 55 8 (fun t => .int .i64 (f t)) ∧ Hid (Tells s1 f) ∧ Blk W w.heap.size 33 #[.int .i64 a1f0, .int .i64 a1f1, .int .i64 a1f2] ∧ Below w.heap.size w W) (fun i _ => n - (Go.RowKit.intOf i).toNat)
  case atStart => exact ⟨0, fresh 8, fresh 8, fun _ => 0, Nat.zero_le _, rfl, K4, K4', rfl, r4, Lib.hid ⟨rfl, fun t _ => rfl⟩, q4, B4⟩
  case round =>
    clear K4 K4' r4 q4 B4
    obtain ⟨j, s1, s2, f, hj, rfl, K1, K2, hn2, R, T, Q, B⟩ := hrel
    by_cases hgo : j < n ∧ j < 60
    · obtain ⟨hlt, h60⟩ := hgo
      obtain ⟨b, off, rfl, hb, hcell⟩ := hA (by omega)
      have x0 := hcell j hlt
      have x0 := (B.cell (p := ⟨b, off + j, none⟩) hb).trans x0
      obtain ⟨x, hx⟩ : ∃ x, IntW.it r0 j = x := ⟨_, rfl⟩
      rw [hx] at x0
      clear hx hcell
      obtain ⟨k, hk, hk8⟩ := hash8 x
      obtain ⟨y, hy⟩ : ∃ y, bits .and .i64 (x / 8) 255 = y := ⟨_, rfl⟩
      obtain ⟨q, hq⟩ : ∃ q, bits .xor .i64 y 1 = q := ⟨_, rfl⟩
      have hltI : (j : Int) < (n : Int) := by omega
      have h60I : (j : Int) < 60 := by omega
      have hk8I : (k : Int) < 8 := by omega
      have R0 := R.frozen k
      have Rc := R.cell hk8
      have ne := gd.out
      go_upto_region 11 with fail
      have k1 : Dk (wr.setCell ⟨g, k, none⟩ (.int .i64 y)) d h m s1 := K1.far ne.1 ne.2.1 ne.2.2.1 _
      have k2 : Dk (wr.setCell ⟨g, k, none⟩ (.int .i64 y)) d' h' m' s2 := K2.far ne.2.2.2.1 ne.2.2.2.2.1 ne.2.2.2.2.2.1 _
      have rr : Row (wr.setCell ⟨g, k, none⟩ (.int .i64 y)) g 55 8 (fun t => .int .i64 ((fun t => if t = k then y else f t) t)) := (R.set k _).say fun t ht => by
        by_cases e : t = k
        · rw [if_pos e]; simp [e]
        · rw [if_neg e]; simp [e]
      have qq := Q.far (p := ⟨g, k, none⟩) ne.2.2.2.2.2.2 (.int .i64 y)
      have bb : Below w.heap.size w (wr.setCell ⟨g, k, none⟩ (.int .i64 y)) := Bs B gw.out
      clear K1 K2 R Q B R0 Rc hk hy x0 ne
      generalize wr.setCell ⟨g, k, none⟩ (.int .i64 y) = W1 at *
      have Rc : W1.cell? ⟨g, k, none⟩ = some (.int .i64 y) := by rw [rr.cell hk8]; simp
      go_wp2_with fail
      refine (sector_any _ y).mono ?_
      rintro e W2 ⟨rfl, b0⟩
      have k1 := k1.keep b0
      have k2 := k2.keep b0
      have rr := rr.keep b0
      have qq := qq.keep b0
      have bb := Bt bb b0
      clear b0 Rc
      have hkn : k < s1.n := by rw [T.out.1]; exact hk8
      go_wp2_with fail
      refine (write_in _ k1 k hkn (rep y) (rep_len y)).mono ?_
      rintro e W3 ⟨rfl, K1, F⟩
      have K2 := F.dk k2 a1 a2 a3
      have R := F.row rr a5
      have Q := F.blk qq a4
      have B := F.below bb hs
      have HT := Lib.hid (T.out.write k y)
      have hkn' : k < (s1.write k (rep y)).n := hkn
      clear k1 k2 rr qq bb F hkn
      have Rc : W3.cell? ⟨g, k, none⟩ = some (.int .i64 y) := by rw [R.cell hk8]; simp
      have hw7 : IntKind.i64.wrap (7 - (k : Int)) = ((7 - k : Nat) : Int) := by rw [IntKind.wrap_i64]; omega
      go_wp2_with fail
      refine (sector_any _ q).mono ?_
      rintro e W4 ⟨rfl, b0⟩
      have K1 := K1.keep b0
      have K2 := K2.keep b0
      have R := R.keep b0
      have Q := Q.keep b0
      have B := Bt B b0
      clear b0 Rc hq hw7
      have h7n : 7 - k < s2.n := by rw [hn2]; omega
      go_wp2_with fail
      refine (write_in _ K2 (7 - k) h7n (rep q) (rep_len q)).mono ?_
      rintro e W5 ⟨rfl, k2, F⟩
      have k1 := F.dk K1 b1 b2 b3
      have rr := F.row R b5
      have qq := F.blk Q b4
      have bb := F.below B hs'
      have hm2 : (s2.write (7 - k) (rep q)).n = 8 := hn2
      clear K1 K2 R Q B F h7n hn2
      go_wp2_with fail
      refine (read_in _ k1 k hkn').mono ?_
      rintro e W6 ⟨rfl, rfl⟩
      have hrd : (s1.write k (rep y)).now k = rep y := by rw [HT.out.2 k hk8]; simp
      rw [hrd]
      clear hrd
      have Rc : W5.cell? ⟨g, k, none⟩ = some (.int .i64 y) := by rw [rr.cell hk8]; simp
      go_wp2_with (first | (go_at_call 9; refine (num_any _ _).mono ?_; rintro e w' ⟨rfl, rfl⟩))
      refine (sector_any _ y).mono ?_
      rintro e W7 ⟨rfl, b0⟩
      have k1 := k1.keep b0
      have k2 := k2.keep b0
      have rr := rr.keep b0
      have qq := qq.keep b0
      have bb := Bt bb b0
      clear b0 Rc
      go_wp2_with fail
      go_roundw
      case rel => exact ⟨j + 1, _, _, _, by omega, by go_num, k1, k2, hm2, rr, HT, qq, bb⟩
      case measure => simp [Go.RowKit.intOf]; omega
    · have ex : (j < n ∧ ¬ (j : Int) < 60) ∨ ¬ (j : Int) < (n : Int) := by omega
      clear hgo
      rcases ex with ⟨x1, x2⟩ | x1
      · have x1 : (j : Int) < (n : Int) := by omega
        go_upto_region 16 with fail
        clear hA a1 a2 a3 b1 b2 b3 b4 b5 hs' K2 hn2
        go_wp2_with fail
        refine (sync_any _ K1).mono ?_
        rintro e W2 ⟨rfl, k1, F⟩
        have rr := F.row R a5
        have qq := F.blk Q a4
        have bb := F.below B hs
        clear K1 R Q B F
        have o0 : W2.cell? ⟨w.heap.size, 0, none⟩ = some (.int .i64 a1f0) := by rw [qq.cell]; rfl
        have o1 : W2.cell? ⟨w.heap.size, 1, none⟩ = some (.int .i64 a1f1) := by rw [qq.cell]; rfl
        have o2 : W2.cell? ⟨w.heap.size, 2, none⟩ = some (.int .i64 a1f2) := by rw [qq.cell]; rfl
        go_wp2_with fail
        refine (crash_synced k1 (fun _ => rfl) a1f0 a1f1 a1f2 HC.out).mono ?_
        rintro e W3 ⟨g1, s3, rfl, K, hn3, hnow, F⟩
        have R := F.row rr a5
        have B := F.below bb hs
        have HT : Hid (Tells s3 f) := Lib.hid ⟨hn3.trans T.out.1, fun t ht => by rw [hnow]; exact T.out.2 t ht⟩
        clear k1 rr qq bb F hnow hn3 T o0 o1 o2 a4 a5
        go_wp2_with fail
        go_loopw [15] (fun i W => ∃ j : Nat, j ≤ 8 ∧ i = .int .i64 j ∧ Dk W d h m s3 ∧ Row W g 55 8 (fun t => .int .i64 (f t)) ∧ Below w.heap.size w W) (fun i _ => 8 - (Go.RowKit.intOf i).toNat)
        case atStart => exact ⟨0, by omega, rfl, K, R, B⟩
        case round =>
          clear K R B
          obtain ⟨t, ht, rfl, K, R, B⟩ := hrel
          by_cases hlt : t < 8
          · have hltI : (t : Int) < 8 := by omega
            have hts : t < s3.n := by rw [HT.out.1]; exact hlt
            go_wp2_with fail
            refine (read_in _ K t hts).mono ?_
            rintro e W6 ⟨rfl, rfl⟩
            rw [HT.out.2 t hlt]
            have Rc := R.cell hlt
            go_wp2_with (first | (go_at_call 9; refine (num_any _ _).mono ?_; rintro e w' ⟨rfl, rfl⟩))
            refine (sector_any _ (f t)).mono ?_
            rintro e W7 ⟨rfl, b0⟩
            have K := K.keep b0
            have R := R.keep b0
            have B := Bt B b0
            clear b0 Rc
            go_wp2_with fail
            go_roundw
            case rel => exact ⟨t + 1, by omega, by go_num, K, R, B⟩
            case measure => simp [Go.RowKit.intOf]; omega
          · obtain rfl : t = 8 := by omega
            go_wp2_with (first | (go_at_call 9; refine (num_any _ _).mono ?_; rintro e w' ⟨rfl, rfl⟩))
            go_ret
            exact ⟨rfl, B⟩
      · skip
        go_upto_region 16 with fail
        clear hA a1 a2 a3 b1 b2 b3 b4 b5 hs' K2 hn2
        go_wp2_with fail
        refine (sync_any _ K1).mono ?_
        rintro e W2 ⟨rfl, k1, F⟩
        have rr := F.row R a5
        have qq := F.blk Q a4
        have bb := F.below B hs
        clear K1 R Q B F
        have o0 : W2.cell? ⟨w.heap.size, 0, none⟩ = some (.int .i64 a1f0) := by rw [qq.cell]; rfl
        have o1 : W2.cell? ⟨w.heap.size, 1, none⟩ = some (.int .i64 a1f1) := by rw [qq.cell]; rfl
        have o2 : W2.cell? ⟨w.heap.size, 2, none⟩ = some (.int .i64 a1f2) := by rw [qq.cell]; rfl
        go_wp2_with fail
        refine (crash_synced k1 (fun _ => rfl) a1f0 a1f1 a1f2 HC.out).mono ?_
        rintro e W3 ⟨g1, s3, rfl, K, hn3, hnow, F⟩
        have R := F.row rr a5
        have B := F.below bb hs
        have HT : Hid (Tells s3 f) := Lib.hid ⟨hn3.trans T.out.1, fun t ht => by rw [hnow]; exact T.out.2 t ht⟩
        clear k1 rr qq bb F hnow hn3 T o0 o1 o2 a4 a5
        go_wp2_with fail
        go_loopw [15] (fun i W => ∃ j : Nat, j ≤ 8 ∧ i = .int .i64 j ∧ Dk W d h m s3 ∧ Row W g 55 8 (fun t => .int .i64 (f t)) ∧ Below w.heap.size w W) (fun i _ => 8 - (Go.RowKit.intOf i).toNat)
        case atStart => exact ⟨0, by omega, rfl, K, R, B⟩
        case round =>
          clear K R B
          obtain ⟨t, ht, rfl, K, R, B⟩ := hrel
          by_cases hlt : t < 8
          · have hltI : (t : Int) < 8 := by omega
            have hts : t < s3.n := by rw [HT.out.1]; exact hlt
            go_wp2_with fail
            refine (read_in _ K t hts).mono ?_
            rintro e W6 ⟨rfl, rfl⟩
            rw [HT.out.2 t hlt]
            have Rc := R.cell hlt
            go_wp2_with (first | (go_at_call 9; refine (num_any _ _).mono ?_; rintro e w' ⟨rfl, rfl⟩))
            refine (sector_any _ (f t)).mono ?_
            rintro e W7 ⟨rfl, b0⟩
            have K := K.keep b0
            have R := R.keep b0
            have B := Bt B b0
            clear b0 Rc
            go_wp2_with fail
            go_roundw
            case rel => exact ⟨t + 1, by omega, by go_num, K, R, B⟩
            case measure => simp [Go.RowKit.intOf]; omega
          · obtain rfl : t = 8 := by omega
            go_wp2_with (first | (go_at_call 9; refine (num_any _ _).mono ?_; rintro e w' ⟨rfl, rfl⟩))
            go_ret
            exact ⟨rfl, B⟩

set_option maxRecDepth 100000 in
theorem lifted (os : Os) (started : os.Started) (H : Type) (enc : TypeId × Value → H) :
    ReturnsInHanded {} Try.checked os 6 .any (Rows.diskLastSpec.pre6 enc Try.prog Try.f6 Rows.diskLastRow.domain false) (Rows.diskLastSpec.post enc Try.prog Try.f6 false true false false) := by
  refine returnsInHanded_of_change (C := Try.checked) own started (by kernel_rfl) Try.func6
    (ChangeSpec.witness6 (enc := enc) (C := Try.checked) false ⟨#[], #[.slice none 0 0, .agg #[.int .i64 0, .int .i64 0, .int .i64 0]], []⟩ 8 (by kernel_rfl) (by kernel_rfl) (by kernel_rfl) (by kernel_rfl)) ?_
  intro W base args ds gs before hval0 hW hcnd _
  have hval : ∀ (j : Nat) t v, Try.f6.params[j]? = some t → args[j]? = some v → Value.okWide Try.prog W .any base t v := hval0
  have hW' := hW
  obtain ⟨p, q, hA0, hV, rfl, hfz, hnd⟩ := hW
  have hA : DataW.TrodAll enc Try.prog W 0 (fun _ => true) true Try.f6.params.toList args.toList ds p := hA0
  rw [Try.params6] at hA hval
  obtain ⟨v0, vs0, d0, ds0, p0, q0, hargs, rfl, rfl, h0, r0⟩ := trodAll_cons hA
  obtain ⟨v1, vs1, d1, ds1, p1, q1, rfl, rfl, rfl, h1, r1⟩ := trodAll_cons r0
  obtain ⟨rfl, rfl, rfl⟩ := trodAll_nil r1
  obtain rfl : args = #[v0, v1] := by cases args; simp_all
  obtain ⟨rfl, rfl⟩ := trodVars_none hV
  have k0 := h0
  have lt0 : ∀ x ∈ p0, x.block < W.heap.size := by obtain ⟨m, hm⟩ := k0; exact DataW.trod_lt m _ _ _ hm
  have k1 := h1
  have lt1 : ∀ x ∈ p1, x.block < W.heap.size := by obtain ⟨m, hm⟩ := k1; exact DataW.trod_lt m _ _ _ hm
  obtain ⟨rs0, hrs0, ro0, fi0⟩ := IntW.open_ints (hval 0 47 v0 rfl rfl) h0
  obtain ⟨c1f0, c1f1, c1f2, y1f0, y1f1, y1f2, m1, rfl, rfl, rfl, hy1f0, hy1f1, hy1f2⟩ := open_agg3 Try.underlying33 (by kernel_rfl) (by kernel_rfl) (hval 1 33 v1 rfl rfl) h1
  obtain ⟨a1f0, e1f0, rfl, w1f0⟩ := DataW.trod_int Try.underlying3 hy1f0
  simp at e1f0
  subst e1f0
  obtain ⟨a1f1, e1f1, rfl, w1f1⟩ := DataW.trod_int Try.underlying3 hy1f1
  simp at e1f1
  subst e1f1
  obtain ⟨a1f2, e1f2, rfl, w1f2⟩ := DataW.trod_int Try.underlying3 hy1f2
  simp at e1f2
  subst e1f2
  clear hA0 hval0
  refine (walk v0 rs0 a1f0 w1f0 a1f1 w1f1 a1f2 w1f2 W hrs0 ro0 fi0).mono fun e W' ⟨he, bel⟩ => ?_
  subst he
  exact ⟨_, rfl, _, _, _, [], _, [], hW', trodAll_mk1 (shut_bool Try.underlying4 _), (trodAll_cons_mk (Below.trod laidOut (by kernel_rfl) (of_decide_eq_true (by kernel_rfl)) k0 bel lt0) (trodAll_cons_mk (Below.trod laidOut (by kernel_rfl) (of_decide_eq_true (by kernel_rfl)) k1 bel lt1) trodAll_mk0)), rfl, bel.frame _, fun h => by cases h⟩

theorem proved : Rows.DiskLastSaid :=
  OpenClaim.holds_of_wide 6 Try.f6 rfl rfl rfl rfl rfl rfl rfl ⟨rfl, rfl, rfl, rfl, rfl⟩ rfl rfl rfl rfl rfl (by kernel_rfl) Try.func6 (by kernel_rfl)
    (of_decide_eq_true (by kernel_rfl)) (by unfold Func.isWrapper; first | (rw [if_pos (by decide +kernel)]; kernel_rfl) | (rw [if_neg (by decide +kernel)]; exact ⟨rfl, rfl⟩))
    (fun os started H enc _ => lifted os started H enc)
#print axioms proved
end Go.Proofs.Ytabecmbeenmjaaa.diskLast
