/-
  For any number of sectors and any row of acts the disk answers as the document's own does, and in the end holds what that one holds: the law DiskActs returns true.
-/
import Derived.Test.YtabecmbeenmjaaaRows
import Derived.Test.YtabecmbeenmjaaaDkAwake
import Derived.Test.YtabecmbeenmjaaaDkBoth
import Derived.Test.YtabecmbeenmjaaaActOpen
import Derived.WalkKit
import Derived.BigQuiet
import Derived.ProofKit
import Derived.OpenShut
import Derived.ShutString
import Derived.ChangeOld
import Derived.Below
import Derived.Lib.SmallJoins
namespace Go.Proofs.Ytabecmbeenmjaaa.diskActs
open Go.ChangeShapes Go.WideShapes Go.ChangeAt Go.RowKit Go.Joins
open Go.ChangeMaps (open_string shut_string)
set_option linter.all false

theorem own : ownKnob Try.prog.godebug = none := by kernel_rfl
theorem laidOut : laidOutB Try.prog = true := by kernel_rfl

open WideW DiskW
theorem val_bool {a b : Bool} (h : a = b) : Value.bool a = .bool b := by rw [h]
theorem say_and {r : Bool} {P Q : Prop} [Decidable P] [Decidable Q] (h : Hid (r = true ↔ P ∧ Q)) : (decide P && decide Q) = r := by
  rw [Bool.eq_iff_iff, h.out]; simp
theorem kpF {S : Nat → Prop} {W w' : World} {g i0 i1 i2 i3 : Nat} {v0 v1 v2 v3 : Value} (hg : ¬ S g) (hb : Fr S W w')
    (hh : W.cell? ⟨g, i0, none⟩ = some v0 ∧ W.cell? ⟨g, i1, none⟩ = some v1 ∧ W.cell? ⟨g, i2, none⟩ = some v2 ∧ W.cell? ⟨g, i3, none⟩ = some v3) :
    w'.cell? ⟨g, i0, none⟩ = some v0 ∧ w'.cell? ⟨g, i1, none⟩ = some v1 ∧ w'.cell? ⟨g, i2, none⟩ = some v2 ∧ w'.cell? ⟨g, i3, none⟩ = some v3 := by
  obtain ⟨h0, h1, h2, h3⟩ := hh
  have e := hb.block g (World.block_lt_of_cell? W _ h0) hg
  exact ⟨(World.cell?_of_block (a := ⟨g, i0, none⟩) e).trans h0, (World.cell?_of_block (a := ⟨g, i1, none⟩) e).trans h1, (World.cell?_of_block (a := ⟨g, i2, none⟩) e).trans h2, (World.cell?_of_block (a := ⟨g, i3, none⟩) e).trans h3⟩

set_option maxRecDepth 100000 in
set_option maxHeartbeats 8000000 in
theorem walk (a0 : Int) (w0 : (Lit.int .i64 a0).wf = true) (v1 : Value) (r1 : List DiskW.ActV) (w : World) (hr1 : DiskW.RdA w w.heap.size v1 r1) (f1 : DiskW.FitsA r1) :
    Calls Try.prog 3 #[.int .i64 a0, v1] w fun e w' => e = .returned (.bool true) ∧ Below w.heap.size w w' := by
  obtain ⟨A, c, rfl, hl, hA⟩ := hr1
  obtain ⟨N, hN⟩ : ∃ N, r1.length = N := ⟨_, rfl⟩
  rw [hN] at hl hA ⊢
  have FA : Hid (∀ i, i < N → (Lit.int .i64 (at_ r1 i).keep).wf = true) := Lib.hid (by rw [← hN]; exact f1)
  have HL := Lib.hid hl
  clear hN hl f1 w0
  by_cases hin : 1 ≤ a0 ∧ a0 ≤ 1024
  · obtain ⟨n, rfl⟩ : ∃ n : Nat, a0 = (n : Int) := ⟨a0.toNat, by omega⟩
    have hn1 : 1 ≤ n := by omega
    have hn2 : n ≤ 1024 := by omega
    clear hin
    go_enter Try.func3, Try.ntmps3
    go_wp2_with fail
    refine (new_any _ n hn1 hn2).mono ?_
    rintro e w1 ⟨d, h, m, rfl, K, nd, nh, nm, B⟩
    have d1 := K.d_lt
    have d2 := K.h_lt
    have d3 := K.m_lt
    go_wp2_with fail
    refine (rnew_any _ n hn1 hn2).mono ?_
    rintro e w2 ⟨b, p, q, r, c1, c2, rfl, R, hge, b0⟩
    have K2 := K.keep b0
    have B2 := Bt B b0
    have hs : ∀ i, In3 d h m i → w.heap.size ≤ i := fun i e => by rcases e with rfl | rfl | rfl <;> assumption
    have hs' : ∀ i, In4 b p q r i → w.heap.size ≤ i := fun i e => by have := hge i e; have := B.size; omega
    have nb : ∀ i, In4 b p q r i → ¬ In3 d h m i := fun i e e2 => by have := hge i e; rcases e2 with rfl | rfl | rfl <;> omega
    have nb' : ∀ i, In3 d h m i → ¬ In4 b p q r i := fun i e e2 => nb i e2 e
    clear K B b0 nd nh nm d1 d2 d3 hge
    go_wp2_with (first | (go_at_call 9; refine (num_any _ _).mono ?_; rintro e w' ⟨rfl, rfl⟩))
    have EE := eq_str
    have EG := eq_guard
    have EN := ne_str
    have EM := ne_guard
    go_loopw [9] (fun i W => ∃ (j : Nat) (s : St), j ≤ N ∧ i = .int .i64 j ∧ Dk W d h m s ∧ Rf W b p q r c1 c2 s ∧ s.n = n ∧ Below w.heap.size w W) (fun i _ => N - (Go.RowKit.intOf i).toNat)
    case atStart => exact ⟨0, fresh n, Nat.zero_le _, rfl, K2, R, rfl, B2⟩
    case round =>
      clear K2 R B2
      obtain ⟨j, s, hj, rfl, K, R, hsn, B⟩ := hrel
      obtain ⟨go, hgo⟩ := has_bool ((j : Int) < (N : Int) ∧ (j : Int) < 100)
      go_upto_region 8 with fail
      go_cut [61] (fun v wx => v = .bool go ∧ wx = wr)
      case first =>
        by_cases qI : (j : Int) < (N : Int)
        · go_wp2_with fail
          all_goals go_meet
          all_goals exact ⟨val_bool (by rw [← say_and hgo]; simp; try omega), rfl⟩
        · go_wp2_with fail
          all_goals go_meet
          all_goals exact ⟨val_bool (by rw [← say_and hgo]; simp; try omega), rfl⟩
      case rest =>
      obtain ⟨rfl, rfl⟩ := hcut
      cases go
      case true =>
        obtain ⟨hltI, h100⟩ := hgo.out.1 rfl
        have hlt : j < N := by omega
        obtain ⟨bA, off, rfl, hb, hcell⟩ := hA (by omega)
        have x := (hcell j hlt).keep B hb
        have fk := FA.out j hlt
        obtain ⟨a, ha⟩ : ∃ a, at_ r1 j = a := ⟨_, rfl⟩
        rw [ha] at x fk
        have HK := Lib.hid fk
        obtain ⟨x0, x1, x2, x3, x4, x5⟩ := x
        clear hcell ha hgo fk
        go_upto_region 11 with fail
        obtain ⟨g, hg⟩ : ∃ g, g = wc.heap.size := ⟨_, rfl⟩
        have gn3 : ¬ In3 d h m g := fun e => by
          have l1 := K.d_lt; have l2 := K.h_lt; have l3 := K.m_lt
          rcases e with e | e | e <;> omega
        have gn4 : ¬ In4 b p q r g := fun e => by
          have l1 := R.b_lt; have l2 := R.p_lt; have l3 := R.q_lt; have l4 := R.r_lt
          rcases e with e | e | e | e <;> omega
        have K5 := K.alloc (.cells #[.int .i64 a.kind, .int .i64 a.pos, .string a.txt, .int .i64 a.keep, .int .i64 a.torn, .int .i64 a.bytes] 35)
        have R5 := R.keep (Ba (o := .cells #[.int .i64 a.kind, .int .i64 a.pos, .string a.txt, .int .i64 a.keep, .int .i64 a.torn, .int .i64 a.bytes] 35) B0)
        have B5 : Below w.heap.size w (wc.alloc (.cells #[.int .i64 a.kind, .int .i64 a.pos, .string a.txt, .int .i64 a.keep, .int .i64 a.torn, .int .i64 a.bytes] 35)) := Ba B
        have Q5 : Blk (wc.alloc (.cells #[.int .i64 a.kind, .int .i64 a.pos, .string a.txt, .int .i64 a.keep, .int .i64 a.torn, .int .i64 a.bytes] 35)) g 35 #[.int .i64 a.kind, .int .i64 a.pos, .string a.txt, .int .i64 a.keep, .int .i64 a.torn, .int .i64 a.bytes] := Blk.new' _ _ _ hg
        rw [← hg]
        clear K R B x0 x1 x2 x3 x4 x5 hg
        generalize (wc.alloc (.cells #[.int .i64 a.kind, .int .i64 a.pos, .string a.txt, .int .i64 a.keep, .int .i64 a.torn, .int .i64 a.bytes] 35)) = W5 at *
        have y0 : W5.cell? ⟨g, 0, none⟩ = some (.int .i64 a.kind) := by rw [Q5.cell]; rfl
        have y1 : W5.cell? ⟨g, 1, none⟩ = some (.int .i64 a.pos) := by rw [Q5.cell]; rfl
        have y2 : W5.cell? ⟨g, 2, none⟩ = some (.string a.txt) := by rw [Q5.cell]; rfl
        have y3 : W5.cell? ⟨g, 3, none⟩ = some (.int .i64 a.keep) := by rw [Q5.cell]; rfl
        have y4 : W5.cell? ⟨g, 4, none⟩ = some (.int .i64 a.torn) := by rw [Q5.cell]; rfl
        have y5 : W5.cell? ⟨g, 5, none⟩ = some (.int .i64 a.bytes) := by rw [Q5.cell]; rfl
        by_cases h5 : a.kind < 5
        · obtain ⟨gg, s', hn', HD, HRR⟩ := write_both s a.pos a.txt
          go_wp2_with fail
          refine (HD _ _ _ _ K5).mono ?_
          rintro e W6 ⟨rfl, K6, F6⟩
          have R6 := R5.fr' F6 (nb _ (.inl rfl)) (nb _ (.inr (.inl rfl))) (nb _ (.inr (.inr (.inl rfl)))) (nb _ (.inr (.inr (.inr rfl))))
          have Q6 := F6.blk Q5 gn3
          have B6 := F6.below B5 hs
          have z1 : W6.cell? ⟨g, 1, none⟩ = some (.int .i64 a.pos) := by rw [Q6.cell]; rfl
          have z2 : W6.cell? ⟨g, 2, none⟩ = some (.string a.txt) := by rw [Q6.cell]; rfl
          clear K5 R5 B5 Q5 F6 y0 y1 y2 y3 y4 y5
          go_upto_region 16 with fail
          go_region_held3 (fun w' => w'.cell? ⟨g, 1, none⟩ = some (.int .i64 a.pos) ∧ w'.cell? ⟨g, 2, none⟩ = some (.string a.txt) ∧ w'.cell? ⟨g, 1, none⟩ = some (.int .i64 a.pos) ∧ w'.cell? ⟨g, 2, none⟩ = some (.string a.txt))
            (first | exact ⟨z1, z2, z1, z2⟩ | exact kp4 (by assumption) (by assumption) | exact kpF gn4 (by assumption) (by assumption) | assumption | go_keep)
            (first
              | (go_at_call 9; (with_reducible refine (num_any _ _).mono ?_); rintro e w' ⟨rfl, rfl⟩)
              | (go_at_call 12; (with_reducible refine (HRR _ _ _ _ _ _ _ R6.drew').mono ?_); rintro e W8 ⟨rfl, R8, F8⟩))
          have K8 := F8.dk K6.drew (nb' _ (.inl rfl)) (nb' _ (.inr (.inl rfl))) (nb' _ (.inr (.inr rfl)))
          have B8 := F8.below (Bd B6) hs'
          have hn8 := hn'.trans hsn
          clear hn' K6 R6 B6 F8
          go_wp2_with (first
            | (go_at_call 9; refine (num_any _ _).mono ?_; rintro e w' ⟨rfl, rfl⟩)
            | (go_at_call 19; (with_reducible refine (dirty_any _ K8).mono ?_); rintro e w' ⟨rfl, rfl⟩)
            | (go_at_call 20; (with_reducible refine (rdirty_any _ R8).mono ?_); rintro e w' ⟨rfl, rfl⟩)
            | (go_at_call 21; (with_reducible refine (sectors_any _ K8).mono ?_); rintro e w' ⟨rfl, rfl⟩)
            | (go_at_call 22; (with_reducible refine (rsectors_any _ R8).mono ?_); rintro e w' ⟨rfl, rfl⟩))
          go_roundw
          case rel => exact ⟨j + 1, s', by omega, by go_num, K8, R8, hn8, B8⟩
          case measure => simp [Go.RowKit.intOf]; omega
        · by_cases h7 : a.kind < 7
          · obtain ⟨l, gg, HD, HRR⟩ := read_both s a.pos
            go_wp2_with (first
              | (go_at_call 13; (with_reducible refine (HD _ _ _ _ K5).mono ?_); rintro e w' ⟨rfl, rfl⟩)
              | (go_at_call 14; (with_reducible refine (HRR _ _ _ _ _ _ _ R5).mono ?_); rintro e w' ⟨rfl, rfl⟩)
              | (go_at_call 9; refine (num_any _ _).mono ?_; rintro e w' ⟨rfl, rfl⟩)
              | (go_at_call 19; (with_reducible refine (dirty_any _ K5).mono ?_); rintro e w' ⟨rfl, rfl⟩)
              | (go_at_call 20; (with_reducible refine (rdirty_any _ R5).mono ?_); rintro e w' ⟨rfl, rfl⟩)
              | (go_at_call 21; (with_reducible refine (sectors_any _ K5).mono ?_); rintro e w' ⟨rfl, rfl⟩)
              | (go_at_call 22; (with_reducible refine (rsectors_any _ R5).mono ?_); rintro e w' ⟨rfl, rfl⟩))
            go_roundw
            case rel => exact ⟨j + 1, s, by omega, by go_num, K5, R5, hsn, B5⟩
            case measure => simp [Go.RowKit.intOf]; omega
          · by_cases h9 : a.kind < 9
            · go_wp2_with fail
              refine (sync_any _ K5).mono ?_
              rintro e W6 ⟨rfl, K6, F6⟩
              have R6 := R5.fr' F6 (nb _ (.inl rfl)) (nb _ (.inr (.inl rfl))) (nb _ (.inr (.inr (.inl rfl)))) (nb _ (.inr (.inr (.inr rfl))))
              have B6 := F6.below B5 hs
              clear K5 R5 B5 Q5 F6 y0 y1 y2 y3 y4 y5
              go_wp2_with fail
              refine (rsync_any _ R6).mono ?_
              rintro e W8 ⟨rfl, R8, F8⟩
              have hn' : s.sync.n = s.n := rfl
              generalize s.sync = s' at *
              have K8 := F8.dk K6 (nb' _ (.inl rfl)) (nb' _ (.inr (.inl rfl))) (nb' _ (.inr (.inr rfl)))
              have B8 := F8.below B6 hs'
              have hn8 := hn'.trans hsn
              clear hn' K6 R6 B6 F8
              go_wp2_with (first
                | (go_at_call 9; refine (num_any _ _).mono ?_; rintro e w' ⟨rfl, rfl⟩)
                | (go_at_call 19; (with_reducible refine (dirty_any _ K8).mono ?_); rintro e w' ⟨rfl, rfl⟩)
                | (go_at_call 20; (with_reducible refine (rdirty_any _ R8).mono ?_); rintro e w' ⟨rfl, rfl⟩)
                | (go_at_call 21; (with_reducible refine (sectors_any _ K8).mono ?_); rintro e w' ⟨rfl, rfl⟩)
                | (go_at_call 22; (with_reducible refine (rsectors_any _ R8).mono ?_); rintro e w' ⟨rfl, rfl⟩))
              go_roundw
              case rel => exact ⟨j + 1, s', by omega, by go_num, K8, R8, hn8, B8⟩
              case measure => simp [Go.RowKit.intOf]; omega
            · obtain ⟨gg, s', hn', HD, HRR⟩ := crash_both s a.keep a.torn a.bytes HK.out
              go_wp2_with fail
              refine (HD _ _ _ _ K5).mono ?_
              rintro e W6 ⟨rfl, K6, F6⟩
              have R6 := R5.fr' F6 (nb _ (.inl rfl)) (nb _ (.inr (.inl rfl))) (nb _ (.inr (.inr (.inl rfl)))) (nb _ (.inr (.inr (.inr rfl))))
              have Q6 := F6.blk Q5 gn3
              have B6 := F6.below B5 hs
              have z3 : W6.cell? ⟨g, 3, none⟩ = some (.int .i64 a.keep) := by rw [Q6.cell]; rfl
              have z4 : W6.cell? ⟨g, 4, none⟩ = some (.int .i64 a.torn) := by rw [Q6.cell]; rfl
              have z5 : W6.cell? ⟨g, 5, none⟩ = some (.int .i64 a.bytes) := by rw [Q6.cell]; rfl
              clear K5 R5 B5 Q5 F6 y0 y1 y2 y3 y4 y5
              go_upto_region 13 with fail
              go_region_held3 (fun w' => w'.cell? ⟨g, 3, none⟩ = some (.int .i64 a.keep) ∧ w'.cell? ⟨g, 4, none⟩ = some (.int .i64 a.torn) ∧ w'.cell? ⟨g, 5, none⟩ = some (.int .i64 a.bytes) ∧ w'.cell? ⟨g, 5, none⟩ = some (.int .i64 a.bytes))
                (first | exact ⟨z3, z4, z5, z5⟩ | exact kp4 (by assumption) (by assumption) | exact kpF gn4 (by assumption) (by assumption) | assumption | go_keep)
                (first
                  | (go_at_call 9; (with_reducible refine (num_any _ _).mono ?_); rintro e w' ⟨rfl, rfl⟩)
                  | (go_at_call 18; (with_reducible refine (HRR _ _ _ _ _ _ _ R6.drew').mono ?_); rintro e W8 ⟨rfl, R8, F8⟩))
              have K8 := F8.dk K6.drew (nb' _ (.inl rfl)) (nb' _ (.inr (.inl rfl))) (nb' _ (.inr (.inr rfl)))
              have B8 := F8.below (Bd B6) hs'
              have hn8 := hn'.trans hsn
              clear hn' K6 R6 B6 F8
              go_wp2_with (first
                | (go_at_call 9; refine (num_any _ _).mono ?_; rintro e w' ⟨rfl, rfl⟩)
                | (go_at_call 19; (with_reducible refine (dirty_any _ K8).mono ?_); rintro e w' ⟨rfl, rfl⟩)
                | (go_at_call 20; (with_reducible refine (rdirty_any _ R8).mono ?_); rintro e w' ⟨rfl, rfl⟩)
                | (go_at_call 21; (with_reducible refine (sectors_any _ K8).mono ?_); rintro e w' ⟨rfl, rfl⟩)
                | (go_at_call 22; (with_reducible refine (rsectors_any _ R8).mono ?_); rintro e w' ⟨rfl, rfl⟩))
              go_roundw
              case rel => exact ⟨j + 1, s', by omega, by go_num, K8, R8, hn8, B8⟩
              case measure => simp [Go.RowKit.intOf]; omega
      case false =>
        go_upto_region 27 with fail
        clear hA FA HL hgo
        have d1 := K.d_lt
        go_wp2_with fail
        go_loopw [19] (fun i W => ∃ t : Nat, t ≤ n ∧ i = .int .i64 t ∧ Dk W d h m s ∧ Rf W b p q r c1 c2 s ∧ Below w.heap.size w W) (fun i _ => n - (Go.RowKit.intOf i).toNat)
        case atStart => exact ⟨0, Nat.zero_le _, rfl, K, R, B⟩
        case round =>
          clear K R B d1
          obtain ⟨t, ht, rfl, K, R, B⟩ := hrel
          by_cases hlt : t < n
          · have hltI : (t : Int) < (n : Int) := by omega
            have hts : t < s.n := by rw [hsn]; exact hlt
            go_wp2_with (first
              | (go_at_call 13; (with_reducible refine (read_in _ K t hts).mono ?_); rintro e w' ⟨rfl, rfl⟩)
              | (go_at_call 14; (with_reducible refine (rread_in _ R t hts).mono ?_); rintro e w' ⟨rfl, rfl⟩))
            go_roundw
            case rel => exact ⟨t + 1, by omega, by go_num, K, R, B⟩
            case measure => simp [Go.RowKit.intOf]; omega
          · obtain rfl : t = n := by omega
            go_wp2_with fail
            refine (awake_any _).mono ?_
            rintro e w8 ⟨rfl, b8⟩
            go_wp2_with fail
            go_ret
            exact ⟨rfl, Bt B b8⟩
  · go_enter Try.func3, Try.ntmps3
    go_wp2_with (first
      | (go_at_call 9; refine (num_any _ _).mono ?_; rintro e w' ⟨rfl, rfl⟩)
      | (go_at_call 7; refine (new_out _ _ hin).mono ?_; rintro e w' ⟨rfl, rfl⟩)
      | (go_at_call 8; refine (rnew_out _ _ hin).mono ?_; rintro e w' ⟨rfl, rfl⟩)
      | (go_at_call 10; refine (awake_any _).mono ?_; rintro e w1 ⟨rfl, B⟩))
    go_ret
    exact ⟨rfl, B⟩

set_option maxRecDepth 100000 in
theorem lifted (os : Os) (started : os.Started) (H : Type) (enc : TypeId × Value → H) :
    ReturnsInHanded {} Try.checked os 3 .any (Rows.diskActsSpec.pre6 enc Try.prog Try.f3 Rows.diskActsRow.domain false) (Rows.diskActsSpec.post enc Try.prog Try.f3 false true false false) := by
  refine returnsInHanded_of_change (C := Try.checked) own started (by kernel_rfl) Try.func3
    (ChangeSpec.witness6 (enc := enc) (C := Try.checked) false ⟨#[], #[.int .i64 0, .slice none 0 0], []⟩ 8 (by kernel_rfl) (by kernel_rfl) (by kernel_rfl) (by kernel_rfl)) ?_
  intro W base args ds gs before hval0 hW hcnd _
  have hval : ∀ (j : Nat) t v, Try.f3.params[j]? = some t → args[j]? = some v → Value.okWide Try.prog W .any base t v := hval0
  have hW' := hW
  obtain ⟨p, q, hA0, hV, rfl, hfz, hnd⟩ := hW
  have hA : DataW.TrodAll enc Try.prog W 0 (fun _ => true) true Try.f3.params.toList args.toList ds p := hA0
  rw [Try.params3] at hA hval
  obtain ⟨v0, vs0, d0, ds0, p0, q0, hargs, rfl, rfl, h0, r0⟩ := trodAll_cons hA
  obtain ⟨v1, vs1, d1, ds1, p1, q1, rfl, rfl, rfl, h1, r1⟩ := trodAll_cons r0
  obtain ⟨rfl, rfl, rfl⟩ := trodAll_nil r1
  obtain rfl : args = #[v0, v1] := by cases args; simp_all
  obtain ⟨rfl, rfl⟩ := trodVars_none hV
  have k0 := h0
  have lt0 : ∀ x ∈ p0, x.block < W.heap.size := by obtain ⟨m, hm⟩ := k0; exact DataW.trod_lt m _ _ _ hm
  have k1 := h1
  have lt1 : ∀ x ∈ p1, x.block < W.heap.size := by obtain ⟨m, hm⟩ := k1; exact DataW.trod_lt m _ _ _ hm
  obtain ⟨a0, rfl, rfl, rfl, w0⟩ := open_int Try.underlying3 (hval 0 3 v0 rfl rfl) h0
  obtain ⟨rs1, hrs1, fi1⟩ := DiskW.open_acts (hval 1 22 v1 rfl rfl) h1
  clear hA0 hval0
  refine (walk a0 w0 v1 rs1 W hrs1 fi1).mono fun e W' ⟨he, bel⟩ => ?_
  subst he
  exact ⟨_, rfl, _, _, _, [], _, [], hW', trodAll_mk1 (shut_bool Try.underlying4 _), (trodAll_cons_mk (Below.trod laidOut (by kernel_rfl) (of_decide_eq_true (by kernel_rfl)) k0 bel lt0) (trodAll_cons_mk (Below.trod laidOut (by kernel_rfl) (of_decide_eq_true (by kernel_rfl)) k1 bel lt1) trodAll_mk0)), rfl, bel.frame _, fun h => by cases h⟩

theorem proved : Rows.DiskActsSaid :=
  OpenClaim.holds_of_wide 3 Try.f3 rfl rfl rfl rfl rfl rfl rfl ⟨rfl, rfl, rfl, rfl, rfl⟩ rfl rfl rfl rfl rfl (by kernel_rfl) Try.func3 (by kernel_rfl)
    (of_decide_eq_true (by kernel_rfl)) (by unfold Func.isWrapper; first | (rw [if_pos (by decide +kernel)]; kernel_rfl) | (rw [if_neg (by decide +kernel)]; exact ⟨rfl, rfl⟩))
    (fun os started H enc _ => lifted os started H enc)
#print axioms proved
end Go.Proofs.Ytabecmbeenmjaaa.diskActs
