/-
  The walks of the program's own stretches and distances: parts, Cross, Far.
-/
import Derived.Test.YtnlmhccmemlhaaaGeomOwnC
namespace Go.Proofs.Ytnlmhccmemlhaaa.WideW
open Go.RowKit
set_option linter.all false

/-- Three points laid one behind the other. -/
def pts3 (w : World) (ax ay bx by_ cx cy : Int) : World :=
  ((w.alloc (.cells #[.int .i64 ax, .int .i64 ay] 26)).alloc (.cells #[.int .i64 bx, .int .i64 by_] 26)).alloc (.cells #[.int .i64 cx, .int .i64 cy] 26)
theorem pts3_is (w : World) (ax ay bx by_ cx cy : Int) : Two (pts3 w ax ay bx by_ cx cy) w.heap.size (.int .i64 ax) (.int .i64 ay) ∧ Two (pts3 w ax ay bx by_ cx cy) (w.heap.size + 1) (.int .i64 bx) (.int .i64 by_) ∧
    Two (pts3 w ax ay bx by_ cx cy) (w.heap.size + 1 + 1) (.int .i64 cx) (.int .i64 cy) ∧ Below w.heap.size w (pts3 w ax ay bx by_ cx cy) := by
  unfold pts3
  refine ⟨((Two.new _ _ _ _).past _).past _, (Two.new' _ _ _ _ ?_).past _, Two.new' _ _ _ _ ?_, Ba (Ba (Ba B0))⟩
  all_goals simp

/-- Four points laid one behind the other. -/
def pts4 (w : World) (ax ay bx by_ cx cy dx dy : Int) : World :=
  (((w.alloc (.cells #[.int .i64 ax, .int .i64 ay] 26)).alloc (.cells #[.int .i64 bx, .int .i64 by_] 26)).alloc (.cells #[.int .i64 cx, .int .i64 cy] 26)).alloc (.cells #[.int .i64 dx, .int .i64 dy] 26)
theorem pts4_is (w : World) (ax ay bx by_ cx cy dx dy : Int) : Two (pts4 w ax ay bx by_ cx cy dx dy) w.heap.size (.int .i64 ax) (.int .i64 ay) ∧ Two (pts4 w ax ay bx by_ cx cy dx dy) (w.heap.size + 1) (.int .i64 bx) (.int .i64 by_) ∧
    Two (pts4 w ax ay bx by_ cx cy dx dy) (w.heap.size + 1 + 1) (.int .i64 cx) (.int .i64 cy) ∧ Two (pts4 w ax ay bx by_ cx cy dx dy) (w.heap.size + 1 + 1 + 1) (.int .i64 dx) (.int .i64 dy) ∧ Below w.heap.size w (pts4 w ax ay bx by_ cx cy dx dy) := by
  unfold pts4
  refine ⟨(((Two.new _ _ _ _).past _).past _).past _, ((Two.new' _ _ _ _ ?_).past _).past _, (Two.new' _ _ _ _ ?_).past _, Two.new' _ _ _ _ ?_, Ba (Ba (Ba (Ba B0)))⟩
  all_goals simp

set_option maxHeartbeats 4000000 in
theorem parts_any (ax ay bx by_ cx cy dx dy : Int) (r : Bool) (w : World) (ha : Geom.Pt ax ay) (hb : Geom.Pt bx by_) (hc : Geom.Pt cx cy) (hd : Geom.Pt dx dy) (hr : r = true ↔ Geom.tn ax ay bx by_ cx cy * Geom.tn ax ay bx by_ dx dy ≤ 0) :
    Calls Try.prog 74 #[.agg #[.int .i64 ax, .int .i64 ay], .agg #[.int .i64 bx, .int .i64 by_], .agg #[.int .i64 cx, .int .i64 cy], .agg #[.int .i64 dx, .int .i64 dy]] w fun e w' => e = .returned (.bool r) ∧ Below w.heap.size w w' := by
  obtain ⟨s, hs⟩ : ∃ s, s = Geom.tn ax ay bx by_ cx cy := ⟨_, rfl⟩
  obtain ⟨t, ht⟩ : ∃ t, t = Geom.tn ax ay bx by_ dx dy := ⟨_, rfl⟩
  rw [← hs, ← ht] at hr
  have sr := Geom.tn_range ax ay bx by_ cx cy
  have tr := Geom.tn_range ax ay bx by_ dx dy
  rw [← hs] at sr
  rw [← ht] at tr
  have ml := unit_mul sr.1 sr.2 tr.1 tr.2
  have HR := Lib.hid hr
  have HS := Lib.hid hs
  have HT := Lib.hid ht
  have ML := Lib.hid ml
  clear hr hs ht sr tr ml
  go_enter Try.func74, Try.ntmps74
  go_wp2_with fail
  obtain ⟨ta, tb, tc, td, B1⟩ := pts4_is w ax ay bx by_ cx cy dx dy
  change Code.wp _ _ _ _ (pts4 w ax ay bx by_ cx cy dx dy)
  generalize pts4 w ax ay bx by_ cx cy dx dy = w1 at *
  go_region_held3 (fun w' => w'.cell? ⟨w.heap.size, 0, none⟩ = some (.int .i64 ax) ∧ w'.cell? ⟨w.heap.size, 1, none⟩ = some (.int .i64 ay) ∧ w'.cell? ⟨w.heap.size + 1, 0, none⟩ = some (.int .i64 bx) ∧ w'.cell? ⟨w.heap.size + 1, 1, none⟩ = some (.int .i64 by_) ∧ w'.cell? ⟨w.heap.size + 1 + 1, 0, none⟩ = some (.int .i64 cx) ∧ w'.cell? ⟨w.heap.size + 1 + 1, 1, none⟩ = some (.int .i64 cy) ∧ w'.cell? ⟨w.heap.size + 1 + 1 + 1, 0, none⟩ = some (.int .i64 dx) ∧ w'.cell? ⟨w.heap.size + 1 + 1 + 1, 1, none⟩ = some (.int .i64 dy))
    (first | exact ⟨ta.2.1, ta.2.2, tb.2.1, tb.2.2, tc.2.1, tc.2.2, td.2⟩ | exact kp8 (by assumption) (by assumption) | go_keep)
    (first
      | (go_at_call 76; with_reducible refine (turn0_any ax ay bx by_ cx cy s _ ha hb hc HS.out).mono ?_; rintro e wA ⟨rfl, hbA⟩)
      | (go_at_call 76; with_reducible refine (turn0_any ax ay bx by_ dx dy t _ ha hb hd HT.out).mono ?_; rintro e wB ⟨rfl, hbB⟩))
  have B2 := Bt (Bt (Bd B1) hbA) hbB
  clear hbA hbB
  go_wp2_with fail
  go_ret
  refine ⟨ret_bool (bool_eq HR.out ?_), B2⟩
  rw [IntWalk.i64_left, wrap_unit ML.out.1 ML.out.2]
  simp

/-- Four points lie from block n on. -/
def Q4 (W : World) (n : Nat) (ax ay bx by_ cx cy dx dy : Int) : Prop :=
  Two W n (.int .i64 ax) (.int .i64 ay) ∧ Two W (n + 1) (.int .i64 bx) (.int .i64 by_) ∧ Two W (n + 1 + 1) (.int .i64 cx) (.int .i64 cy) ∧ Two W (n + 1 + 1 + 1) (.int .i64 dx) (.int .i64 dy)
theorem Q4.keep {W w' : World} {n : Nat} {ax ay bx by_ cx cy dx dy : Int} (hb : Below W.heap.size W w') (h : Q4 W n ax ay bx by_ cx cy dx dy) : Q4 w' n ax ay bx by_ cx cy dx dy :=
  ⟨h.1.keep hb, h.2.1.keep hb, h.2.2.1.keep hb, h.2.2.2.keep hb⟩
theorem Q4.past {W : World} {n : Nat} {ax ay bx by_ cx cy dx dy : Int} (h : Q4 W n ax ay bx by_ cx cy dx dy) (o : Obj) : Q4 (W.alloc o) n ax ay bx by_ cx cy dx dy :=
  ⟨h.1.past o, h.2.1.past o, h.2.2.1.past o, h.2.2.2.past o⟩
theorem Q4.new (w : World) (ax ay bx by_ cx cy dx dy : Int) : Q4 (pts4 w ax ay bx by_ cx cy dx dy) w.heap.size ax ay bx by_ cx cy dx dy := by
  obtain ⟨a, b, c, d, -⟩ := pts4_is w ax ay bx by_ cx cy dx dy
  exact ⟨a, b, c, d⟩

theorem mt_bm {ax ay bx by_ cx cy dx dy : Int} (ha : Geom.Pt ax ay) (hb : Geom.Pt bx by_) (hc : Geom.Pt cx cy) (hd : Geom.Pt dx dy) :
    Geom.Mt (min ax bx) (min ay by_) (max ax bx) (max ay by_) (min cx dx) (min cy dy) (max cx dx) (max cy dy) ↔ Geom.Bm ax ay bx by_ cx cy dx dy := by
  unfold Geom.Mt Geom.Bm Geom.Bx Geom.Pt at *
  constructor
  · rintro ⟨-, -, h1, h2, h3, h4⟩
    exact ⟨h1, h2, h3, h4⟩
  · rintro ⟨h1, h2, h3, h4⟩
    refine ⟨?_, ?_, h1, h2, h3, h4⟩ <;> omega

/-- What Cross answers. -/
def crossOut (ax ay bx by_ cx cy dx dy : Int) (r : Bool) (k : Int) : Prop :=
  ((Geom.Pt ax ay ∧ Geom.Pt bx by_ ∧ Geom.Pt cx cy ∧ Geom.Pt dx dy) ∧ (r = true ↔ Geom.Cr ax ay bx by_ cx cy dx dy) ∧ k = 0) ∨ (¬ (Geom.Pt ax ay ∧ Geom.Pt bx by_ ∧ Geom.Pt cx cy ∧ Geom.Pt dx dy) ∧ r = false ∧ k = 300)
theorem crossOut_is (ax ay bx by_ cx cy dx dy : Int) : ∃ r k, crossOut ax ay bx by_ cx cy dx dy r k := by
  by_cases k : Geom.Pt ax ay ∧ Geom.Pt bx by_ ∧ Geom.Pt cx cy ∧ Geom.Pt dx dy
  · obtain ⟨r, hr⟩ := has_bool (Geom.Cr ax ay bx by_ cx cy dx dy)
    exact ⟨_, _, .inl ⟨k, hr.out, rfl⟩⟩
  · exact ⟨_, _, .inr ⟨k, rfl, rfl⟩⟩

set_option maxHeartbeats 4000000 in
theorem cross_any (ax ay bx by_ cx cy dx dy : Int) (r : Bool) (k : Int) (w : World) (hr : crossOut ax ay bx by_ cx cy dx dy r k) :
    Calls Try.prog 70 #[.agg #[.int .i64 ax, .int .i64 ay], .agg #[.int .i64 bx, .int .i64 by_], .agg #[.int .i64 cx, .int .i64 cy], .agg #[.int .i64 dx, .int .i64 dy]] w fun e w' => e = .returned (.tuple #[.bool r, .int .i64 k]) ∧ Below w.heap.size w w' := by
  have HR := Lib.hid hr
  have no : ¬ (Geom.Pt ax ay ∧ Geom.Pt bx by_ ∧ Geom.Pt cx cy ∧ Geom.Pt dx dy) → r = false ∧ k = 300 := fun h => by
    rcases hr with ⟨h1, -⟩ | ⟨-, h1⟩
    · exact absurd h1 h
    · exact h1
  have NO := Lib.hid no
  clear hr no
  obtain ⟨r1, H1⟩ := has_bool (Geom.Pt ax ay)
  obtain ⟨r2, H2⟩ := has_bool (Geom.Pt bx by_)
  obtain ⟨r3, H3⟩ := has_bool (Geom.Pt cx cy)
  obtain ⟨r4, H4⟩ := has_bool (Geom.Pt dx dy)
  go_enter Try.func70, Try.ntmps70
  go_wp2_with fail
  refine (pt_any _ _ r1 _ H1.out).mono ?_
  rintro e w1 ⟨rfl, hb1⟩
  have q := Q4.keep hb1 (Q4.new w ax ay bx by_ cx cy dx dy)
  have B1 := Bt (Ba (Ba (Ba (Ba B0)))) hb1
  clear hb1
  cases r1
  · go_wp2_with fail
    obtain ⟨rfl, rfl⟩ := NO.out (fun h => by have := H1.out.mpr h.1; contradiction)
    exact bodyPost_ret (v := .tuple #[.bool false, .int .i64 300]) (by simp [results, Try.results70, go_sem]) rfl ⟨rfl, B1⟩
  · obtain ⟨-, ⟨z, p, t⟩, -, -⟩ := id q
    go_wp2_with fail
    refine (pt_any _ _ r2 _ H2.out).mono ?_
    rintro e w2 ⟨rfl, hb2⟩
    have q := Q4.keep hb2 q
    have B2 := Bt B1 hb2
    clear hb2 z p t B1
    cases r2
    · go_wp2_with fail
      obtain ⟨rfl, rfl⟩ := NO.out (fun h => by have := H2.out.mpr h.2.1; contradiction)
      exact bodyPost_ret (v := .tuple #[.bool false, .int .i64 300]) (by simp [results, Try.results70, go_sem]) rfl ⟨rfl, B2⟩
    · obtain ⟨-, -, ⟨z, p, t⟩, -⟩ := id q
      go_wp2_with fail
      refine (pt_any _ _ r3 _ H3.out).mono ?_
      rintro e w3 ⟨rfl, hb3⟩
      have q := Q4.keep hb3 q
      have B3 := Bt B2 hb3
      clear hb3 z p t B2
      cases r3
      · go_wp2_with fail
        obtain ⟨rfl, rfl⟩ := NO.out (fun h => by have := H3.out.mpr h.2.2.1; contradiction)
        exact bodyPost_ret (v := .tuple #[.bool false, .int .i64 300]) (by simp [results, Try.results70, go_sem]) rfl ⟨rfl, B3⟩
      · obtain ⟨-, -, -, ⟨z, p, t⟩⟩ := id q
        go_wp2_with fail
        refine (pt_any _ _ r4 _ H4.out).mono ?_
        rintro e w4 ⟨rfl, hb4⟩
        have q := Q4.keep hb4 q
        have B4 := Bt B3 hb4
        clear hb4 z p t B3
        cases r4
        · go_wp2_with fail
          obtain ⟨rfl, rfl⟩ := NO.out (fun h => by have := H4.out.mpr h.2.2.2; contradiction)
          exact bodyPost_ret (v := .tuple #[.bool false, .int .i64 300]) (by simp [results, Try.results70, go_sem]) rfl ⟨rfl, B4⟩
        · have pa := H1.out.mp (by simp)
          have pb := H2.out.mp (by simp)
          have pc := H3.out.mp (by simp)
          have pd := H4.out.mp (by simp)
          obtain ⟨h1, h2⟩ : (r = true ↔ Geom.Cr ax ay bx by_ cx cy dx dy) ∧ k = 0 := by
            rcases HR.out with ⟨-, h⟩ | ⟨h, -⟩
            · exact h
            · exact absurd ⟨pa, pb, pc, pd⟩ h
          subst h2
          have HT := Lib.hid h1
          clear h1 H1 H2 H3 H4 HR NO
          obtain ⟨m, HM⟩ := has_bool (Geom.Bm ax ay bx by_ cx cy dx dy)
          have HM2 := Lib.hid (HM.out.trans (mt_bm pa pb pc pd).symm)
          obtain ⟨x0, e0⟩ : ∃ x, x = min ax bx := ⟨_, rfl⟩
          obtain ⟨x1, e1⟩ : ∃ x, x = min ay by_ := ⟨_, rfl⟩
          obtain ⟨x2, e2⟩ : ∃ x, x = max ax bx := ⟨_, rfl⟩
          obtain ⟨x3, e3⟩ : ∃ x, x = max ay by_ := ⟨_, rfl⟩
          obtain ⟨y0, f0⟩ : ∃ x, x = min cx dx := ⟨_, rfl⟩
          obtain ⟨y1, f1⟩ : ∃ x, x = min cy dy := ⟨_, rfl⟩
          obtain ⟨y2, f2⟩ : ∃ x, x = max cx dx := ⟨_, rfl⟩
          obtain ⟨y3, f3⟩ : ∃ x, x = max cy dy := ⟨_, rfl⟩
          rw [← e0, ← e1, ← e2, ← e3, ← f0, ← f1, ← f2, ← f3] at HM2
          have E0 := Lib.hid e0; have E1 := Lib.hid e1; have E2 := Lib.hid e2; have E3 := Lib.hid e3
          have F0 := Lib.hid f0; have F1 := Lib.hid f1; have F2 := Lib.hid f2; have F3 := Lib.hid f3
          clear e0 e1 e2 e3 f0 f1 f2 f3
          go_wp2_with fail
          obtain ⟨ta, tb, tc, td⟩ := id q
          go_region_held3 (fun w' => w'.cell? ⟨w.heap.size, 0, none⟩ = some (.int .i64 ax) ∧ w'.cell? ⟨w.heap.size, 1, none⟩ = some (.int .i64 ay) ∧ w'.cell? ⟨w.heap.size + 1, 0, none⟩ = some (.int .i64 bx) ∧ w'.cell? ⟨w.heap.size + 1, 1, none⟩ = some (.int .i64 by_) ∧ w'.cell? ⟨w.heap.size + 1 + 1, 0, none⟩ = some (.int .i64 cx) ∧ w'.cell? ⟨w.heap.size + 1 + 1, 1, none⟩ = some (.int .i64 cy) ∧ w'.cell? ⟨w.heap.size + 1 + 1 + 1, 0, none⟩ = some (.int .i64 dx) ∧ w'.cell? ⟨w.heap.size + 1 + 1 + 1, 1, none⟩ = some (.int .i64 dy))
            (first | exact ⟨ta.2.1, ta.2.2, tb.2.1, tb.2.2, tc.2.1, tc.2.2, td.2⟩ | exact kp8 (by assumption) (by assumption) | go_keep)
            (first
              | (go_at_call 67; with_reducible refine (around_any ax ay bx by_ x0 x1 x2 x3 _ E0.out E1.out E2.out E3.out).mono ?_; rintro e wA ⟨rfl, hbA⟩)
              | (go_at_call 67; with_reducible refine (around_any cx cy dx dy y0 y1 y2 y3 _ F0.out F1.out F2.out F3.out).mono ?_; rintro e wB ⟨rfl, hbB⟩)
              | (go_at_call 66; with_reducible refine (mt_any x0 x1 x2 x3 y0 y1 y2 y3 m _ HM2.out).mono ?_; rintro e wC ⟨rfl, hbC⟩))
          have B5 := Bt (Bt (Bt (Bd B4) hbA) hbB) hbC
          have q := Q4.keep hbC (Q4.keep hbB (Q4.keep hbA (show Q4 w4.drew w.heap.size ax ay bx by_ cx cy dx dy from q)))
          clear hbA hbB hbC ta tb tc td B4 HM2 E0 E1 E2 E3 F0 F1 F2 F3
          cases m
          · go_wp2_with fail
            have : r = false := by
              rw [Bool.eq_false_iff]
              intro h
              have := HM.out.mpr (HT.out.mp h).1
              contradiction
            subst this
            exact bodyPost_ret (v := .tuple #[.bool false, .int .i64 0]) (by simp [results, Try.results70, go_sem]) rfl ⟨rfl, B5⟩
          · obtain ⟨p1, P1⟩ := has_bool (Geom.tn ax ay bx by_ cx cy * Geom.tn ax ay bx by_ dx dy ≤ 0)
            obtain ⟨p2, P2⟩ := has_bool (Geom.tn cx cy dx dy ax ay * Geom.tn cx cy dx dy bx by_ ≤ 0)
            obtain ⟨⟨z1, s1, t1⟩, ⟨z2, s2, t2⟩, ⟨z3, s3, t3⟩, ⟨z4, s4, t4⟩⟩ := id q
            have hm := HM.out.mp (by simp)
            have hp : r = (p1 && p2) := by
              rw [Bool.eq_iff_iff, HT.out, Bool.and_eq_true, P1.out, P2.out]
              exact ⟨fun h => h.2, fun h => ⟨hm, h⟩⟩
            have HP := Lib.hid hp
            clear hp hm
            go_wp2_with fail
            refine (parts_any _ _ _ _ _ _ _ _ p1 _ pa pb pc pd P1.out).mono ?_
            rintro e w5 ⟨rfl, hb5⟩
            have q := Q4.keep hb5 q
            have B6 := Bt B5 hb5
            clear hb5 z1 s1 t1 z2 s2 t2 z3 s3 t3 z4 s4 t4
            cases p1
            · go_wp2_with fail
              have hp := HP.out
              simp at hp
              subst hp
              exact bodyPost_ret (v := .tuple #[.bool false, .int .i64 0]) (by simp [results, Try.results70, go_sem]) rfl ⟨rfl, B6⟩
            · obtain ⟨⟨z1, s1, t1⟩, ⟨z2, s2, t2⟩, ⟨z3, s3, t3⟩, ⟨z4, s4, t4⟩⟩ := id q
              go_wp2_with fail
              refine (parts_any _ _ _ _ _ _ _ _ p2 _ pc pd pa pb P2.out).mono ?_
              rintro e w6 ⟨rfl, hb6⟩
              have B7 := Bt B6 hb6
              clear hb6 z1 s1 t1 z2 s2 t2 z3 s3 t3 z4 s4 t4
              have hp := HP.out
              simp at hp
              subst hp
              go_wp2_with fail
              exact bodyPost_ret (v := .tuple #[.bool r, .int .i64 0]) (by simp [results, Try.results70, go_sem]) rfl ⟨rfl, B7⟩

theorem sq_small {x : Nat} (h : x ≤ 4294967295) : x * x ≤ 18446744065119617025 := by
  have := Nat.mul_le_mul h h
  omega

/-- How far a coordinate lies outside. -/
def gapN (x l h : Int) : Nat := (max (l - x) (max 0 (x - h))).toNat
theorem gapN_is (x l h : Int) : (gapN x l h : Int) = max (l - x) (max 0 (x - h)) := by unfold gapN; omega
/-- A distance's square. -/
def farN (x y a b c d : Int) : Nat := gapN x a c * gapN x a c + gapN y b d * gapN y b d

/-- What Far answers. -/
def farOut (x y a b c d : Int) (h l : Nat) (k : Int) : Prop :=
  ((Geom.Pt x y ∧ Geom.Bx a b c d) ∧ h * 18446744073709551616 + l = farN x y a b c d ∧ h < 2 ∧ l < 18446744073709551616 ∧ k = 0) ∨ (¬ (Geom.Pt x y ∧ Geom.Bx a b c d) ∧ h = 0 ∧ l = 0 ∧ k = 300)

theorem gap_small {x l h : Int} (h1 : 0 ≤ x) (h2 : x ≤ 4294967295) (h3 : 0 ≤ l) (h4 : l ≤ 4294967295) (h5 : 0 ≤ h) (h6 : h ≤ 4294967295) : gapN x l h ≤ 4294967295 := by
  unfold gapN; omega
theorem far_small {x y a b c d : Int} (h : Geom.Pt x y ∧ Geom.Bx a b c d) : farN x y a b c d ≤ 36893488130239234050 := by
  obtain ⟨⟨h1, h2, h3, h4⟩, ⟨h5, h6, h7, h8⟩, ⟨h9, h10, h11, h12⟩, -, -⟩ := h
  have e1 := sq_small (gap_small h1 h2 h5 h6 h9 h10)
  have e2 := sq_small (gap_small h3 h4 h7 h8 h11 h12)
  unfold farN
  omega
theorem farOut_is (x y a b c d : Int) : ∃ h l k, farOut x y a b c d h l k := by
  by_cases k : Geom.Pt x y ∧ Geom.Bx a b c d
  · have := far_small k
    exact ⟨farN x y a b c d / 18446744073709551616, farN x y a b c d % 18446744073709551616, _, .inl ⟨k, by omega, by omega, by omega, rfl⟩⟩
  · exact ⟨_, _, _, .inr ⟨k, rfl, rfl, rfl⟩⟩

end Go.Proofs.Ytnlmhccmemlhaaa.WideW
