/-
  The walk of layer 6's 'awake'.
-/
import Derived.Test.YtkeljklohmbohaaCovOwnF
import Derived.Test.YtkeljklohmbohaaCovOf
namespace Go.Proofs.Ytkeljklohmbohaa.CovW
open Go.RowKit WideW Cov
set_option linter.all false

theorem lit1 (w : World) (f t : Int) : RdG (w.alloc (.cells #[.int .i64 f, .int .i64 t] 48)) (w.alloc (.cells #[.int .i64 f, .int .i64 t] 48)).heap.size (.slice (some ⟨w.heap.size, 0, none⟩) 1 1) [(f, t)] :=
  RgRow.read (base := 0) (l := [(f, t)]) (World.ownsRow_lit w #[.int .i64 f, .int .i64 t] 1 (Nat.zero_le _) (by decide) rfl) (by simp)
theorem lit2 (w : World) (f t g s : Int) : RdG (w.alloc (.cells #[.int .i64 f, .int .i64 t, .int .i64 g, .int .i64 s] 48)) (w.alloc (.cells #[.int .i64 f, .int .i64 t, .int .i64 g, .int .i64 s] 48)).heap.size (.slice (some ⟨w.heap.size, 0, none⟩) 2 2) [(f, t), (g, s)] :=
  RgRow.read (base := 0) (l := [(f, t), (g, s)]) (World.ownsRow_lit w #[.int .i64 f, .int .i64 t, .int .i64 g, .int .i64 s] 2 (Nat.zero_le _) (by decide) rfl) (by simp)
theorem isMix {how : Nat} {a b m n : List Rg} (ha : May a) (hb : May b) (h : MixOut how a b m) (hn : IsMix how a b n) : m = n := mix_uniq (h.1 ⟨ha, hb⟩) hn
theorem has1 (f t d : Int) : Has [(f, t)] d ↔ f ≤ d ∧ d < t := by rw [has_cons]; simp [has_nil]
theorem has2 (f t g s d : Int) : Has [(f, t), (g, s)] d ↔ (f ≤ d ∧ d < t) ∨ (g ≤ d ∧ d < s) := by rw [has_cons, has1]
theorem may1 {f t : Int} (h0 : 0 ≤ f) (h : f < t) (h1 : t ≤ 4294967296) : May [(f, t)] := ⟨h0, h, h1, trivial⟩
theorem may2 {f t g s : Int} (h0 : 0 ≤ f) (h : f < t) (h1 : t < g) (h2 : g < s) (h3 : s ≤ 4294967296) : May [(f, t), (g, s)] := ⟨h0, h, by show t ≤ 4294967296; omega, by show t + 1 ≤ g; omega, h2, h3, trivial⟩
theorem mixA : IsMix 0 [(0, 5)] [(5, 9)] [(0, 9)] := ⟨may1 (by decide) (by decide) (by decide), fun d => by rw [want_iff, has1, has1, has1]; simp; omega⟩
theorem mixB : IsMix 1 [(0, 5)] [(4, 9)] [(4, 5)] := ⟨may1 (by decide) (by decide) (by decide), fun d => by rw [want_iff, has1, has1, has1]; simp; omega⟩
theorem mixC : IsMix 2 [(0, 5)] [(1, 2)] [(0, 1), (2, 5)] := ⟨may2 (by decide) (by decide) (by decide) (by decide) (by decide), fun d => by rw [want_iff, has2, has1, has1]; simp; omega⟩
theorem coverA : Cov.cover 0 0 4294967295 4294967295 = [(0, 4294967296)] := by decide +kernel
theorem coverB : Cov.cover 0 0 0 0 = [(0, 1048576)] := by decide +kernel

section
variable (w : World)
theorem of_1 : Calls Try.prog 10 #[.agg #[.int .i64 0, .int .i64 0, .int .i64 4294967295, .int .i64 4294967295]] w fun r w' => ∃ v, r = .returned (.tuple #[v, .int .i64 0]) ∧ RdG w' w'.heap.size v [(0, 4294967296)] ∧ Below w.heap.size w w' :=
  of_any 0 0 4294967295 4294967295 _ 0 w (.inl ⟨by unfold Geom.Bx Geom.Pt; omega, coverA.symm, rfl⟩)
theorem of_2 : Calls Try.prog 10 #[.agg #[.int .i64 0, .int .i64 0, .int .i64 0, .int .i64 0]] w fun r w' => ∃ v, r = .returned (.tuple #[v, .int .i64 0]) ∧ RdG w' w'.heap.size v [(0, 1048576)] ∧ Below w.heap.size w w' :=
  of_any 0 0 0 0 _ 0 w (.inl ⟨by unfold Geom.Bx Geom.Pt; omega, coverB.symm, rfl⟩)
theorem of_3 : Calls Try.prog 10 #[.agg #[.int .i64 1, .int .i64 0, .int .i64 0, .int .i64 0]] w fun r w' => ∃ v, r = .returned (.tuple #[v, .int .i64 600]) ∧ RdG w' w'.heap.size v [] ∧ Below w.heap.size w w' :=
  of_any 1 0 0 0 _ 600 w (.inr ⟨by unfold Geom.Bx Geom.Pt; omega, rfl, rfl⟩)
end
theorem un_1 (w : World) : Calls Try.prog 14 #[.slice (some ⟨w.heap.size, 0, none⟩) 1 1, .slice (some ⟨w.heap.size + 1, 0, none⟩) 1 1] ((w.alloc (.cells #[.int .i64 0, .int .i64 5] 48)).alloc (.cells #[.int .i64 5, .int .i64 9] 48)) fun e w' => ∃ u, e = .returned (.tuple #[u, .int .i64 0]) ∧ RdG w' w'.heap.size u [(0, 9)] ∧ Below w.heap.size w w' := by
  have ma : May [((0 : Int), (5 : Int))] := may1 (by decide) (by decide) (by decide)
  have mb : May [((5 : Int), (9 : Int))] := may1 (by decide) (by decide) (by decide)
  have l1 := (lit1 w 0 5).on (Ba (o := .cells #[.int .i64 5, .int .i64 9] 48) B0)
  have l2 := lit1 (w.alloc (.cells #[.int .i64 0, .int .i64 5] 48)) 5 9
  rw [show (w.alloc (.cells #[.int .i64 0, .int .i64 5] 48)).heap.size = w.heap.size + 1 by simp] at l2
  refine (union_any _ _ [(0, 5)] [(5, 9)] 0 ((w.alloc (.cells #[.int .i64 0, .int .i64 5] 48)).alloc (.cells #[.int .i64 5, .int .i64 9] 48)) l1 (by simpa using l2) (.inl ⟨ma, mb, rfl⟩)).mono ?_
  rintro _ w' ⟨u, m, rfl, hR, hM, hB⟩
  rw [isMix ma mb hM mixA] at hR
  exact ⟨u, rfl, hR, Bt (Ba (Ba B0)) hB⟩
theorem co_1 (w : World) : Calls Try.prog 16 #[.slice (some ⟨w.heap.size, 0, none⟩) 1 1, .slice (some ⟨w.heap.size + 1, 0, none⟩) 1 1] ((w.alloc (.cells #[.int .i64 0, .int .i64 5] 48)).alloc (.cells #[.int .i64 4, .int .i64 9] 48)) fun e w' => ∃ u, e = .returned (.tuple #[u, .int .i64 0]) ∧ RdG w' w'.heap.size u [(4, 5)] ∧ Below w.heap.size w w' := by
  have ma : May [((0 : Int), (5 : Int))] := may1 (by decide) (by decide) (by decide)
  have mb : May [((4 : Int), (9 : Int))] := may1 (by decide) (by decide) (by decide)
  have l1 := (lit1 w 0 5).on (Ba (o := .cells #[.int .i64 4, .int .i64 9] 48) B0)
  have l2 := lit1 (w.alloc (.cells #[.int .i64 0, .int .i64 5] 48)) 4 9
  rw [show (w.alloc (.cells #[.int .i64 0, .int .i64 5] 48)).heap.size = w.heap.size + 1 by simp] at l2
  refine (common_any _ _ [(0, 5)] [(4, 9)] 0 ((w.alloc (.cells #[.int .i64 0, .int .i64 5] 48)).alloc (.cells #[.int .i64 4, .int .i64 9] 48)) l1 (by simpa using l2) (.inl ⟨ma, mb, rfl⟩)).mono ?_
  rintro _ w' ⟨u, m, rfl, hR, hM, hB⟩
  rw [isMix ma mb hM mixB] at hR
  exact ⟨u, rfl, hR, Bt (Ba (Ba B0)) hB⟩
theorem le_1 (w : World) : Calls Try.prog 17 #[.slice (some ⟨w.heap.size, 0, none⟩) 1 1, .slice (some ⟨w.heap.size + 1, 0, none⟩) 1 1] ((w.alloc (.cells #[.int .i64 0, .int .i64 5] 48)).alloc (.cells #[.int .i64 1, .int .i64 2] 48)) fun e w' => ∃ u, e = .returned (.tuple #[u, .int .i64 0]) ∧ RdG w' w'.heap.size u [(0, 1), (2, 5)] ∧ Below w.heap.size w w' := by
  have ma : May [((0 : Int), (5 : Int))] := may1 (by decide) (by decide) (by decide)
  have mb : May [((1 : Int), (2 : Int))] := may1 (by decide) (by decide) (by decide)
  have l1 := (lit1 w 0 5).on (Ba (o := .cells #[.int .i64 1, .int .i64 2] 48) B0)
  have l2 := lit1 (w.alloc (.cells #[.int .i64 0, .int .i64 5] 48)) 1 2
  rw [show (w.alloc (.cells #[.int .i64 0, .int .i64 5] 48)).heap.size = w.heap.size + 1 by simp] at l2
  refine (less_any _ _ [(0, 5)] [(1, 2)] 0 ((w.alloc (.cells #[.int .i64 0, .int .i64 5] 48)).alloc (.cells #[.int .i64 1, .int .i64 2] 48)) l1 (by simpa using l2) (.inl ⟨ma, mb, rfl⟩)).mono ?_
  rintro _ w' ⟨u, m, rfl, hR, hM, hB⟩
  rw [isMix ma mb hM mixC] at hR
  exact ⟨u, rfl, hR, Bt (Ba (Ba B0)) hB⟩
theorem un_2 (w : World) : Calls Try.prog 14 #[.slice (some ⟨w.heap.size, 0, none⟩) 1 1, .slice none 0 0] (w.alloc (.cells #[.int .i64 5, .int .i64 5] 48)) fun e w' => ∃ u, e = .returned (.tuple #[u, .int .i64 600]) ∧ Below w.heap.size w w' := by
  have ma : ¬ May [((5 : Int), (5 : Int))] := fun h => by have := h.2.1; simp at this
  refine (union_any _ _ [(5, 5)] [] 600 _ (lit1 w 5 5) (RdG.nil _ _) (.inr ⟨fun h => ma h.1, rfl⟩)).mono ?_
  rintro _ w' ⟨u, m, rfl, hR, hM, hB⟩
  exact ⟨u, rfl, Bt (Ba B0) hB⟩
theorem sm_1 (v : Value) (f t : Int) (w : World) (h : RdG w w.heap.size v [(f, t)]) : Calls Try.prog 12 #[v, .slice (some ⟨w.heap.size, 0, none⟩) 1 1] (w.alloc (.cells #[.int .i64 f, .int .i64 t] 48)) fun e w' => e = .returned (.bool true) ∧ Below w.heap.size w w' := by
  refine (same_any v _ [(f, t)] [(f, t)] true _ (h.on (Ba B0)) (lit1 w f t) (by simp)).mono ?_
  rintro _ w' ⟨rfl, hB⟩
  exact ⟨rfl, Bt (Ba B0) hB⟩
theorem sm_2 (v : Value) (f t g s : Int) (w : World) (h : RdG w w.heap.size v [(f, t), (g, s)]) : Calls Try.prog 12 #[v, .slice (some ⟨w.heap.size, 0, none⟩) 2 2] (w.alloc (.cells #[.int .i64 f, .int .i64 t, .int .i64 g, .int .i64 s] 48)) fun e w' => e = .returned (.bool true) ∧ Below w.heap.size w w' := by
  refine (same_any v _ [(f, t), (g, s)] [(f, t), (g, s)] true _ (h.on (Ba B0)) (lit2 w f t g s) (by simp)).mono ?_
  rintro _ w' ⟨rfl, hB⟩
  exact ⟨rfl, Bt (Ba B0) hB⟩

set_option maxRecDepth 100000 in
set_option maxHeartbeats 4000000 in
theorem awake_any (w : World) :
    Calls Try.prog 23 #[] w fun e w' => e = .returned (.bool true) ∧ Below w.heap.size w w' := by
  go_enter Try.func23, Try.ntmps23
  go_wp2_with fail
  refine (of_1 _).mono ?_
  rintro _ w1 ⟨va, rfl, ra, B1⟩
  go_wp2_with fail
  refine (of_2 _).mono ?_
  rintro _ w2 ⟨vb, rfl, rb, hb⟩
  have ra := ra.on hb
  have B2 := Bt B1 hb
  clear hb B1
  go_wp2_with fail
  refine (of_3 _).mono ?_
  rintro _ w3 ⟨vc, rfl, rc, hb⟩
  have ra := ra.on hb
  have rb := rb.on hb
  have B3 := Bt B2 hb
  clear hb B2 rc
  go_wp2_with fail
  refine (un_1 _).mono ?_
  rintro _ w4 ⟨vu, rfl, ru, hb⟩
  have ra := ra.on hb
  have rb := rb.on hb
  have B4 := Bt B3 hb
  clear hb B3
  go_wp2_with fail
  refine (co_1 _).mono ?_
  rintro _ w5 ⟨vd, rfl, rc, hb⟩
  have ra := ra.on hb
  have rb := rb.on hb
  have ru := ru.on hb
  have B5 := Bt B4 hb
  clear hb B4
  go_wp2_with fail
  refine (le_1 _).mono ?_
  rintro _ w6 ⟨ve, rfl, rd, hb⟩
  have ra := ra.on hb
  have rb := rb.on hb
  have ru := ru.on hb
  have rc := rc.on hb
  have B6 := Bt B5 hb
  clear hb B5
  go_wp2_with fail
  refine (un_2 _).mono ?_
  rintro _ w7 ⟨vf, rfl, hb⟩
  have ra := ra.on hb
  have rb := rb.on hb
  have ru := ru.on hb
  have rc := rc.on hb
  have rd := rd.on hb
  have B7 := Bt B6 hb
  clear hb B6
  go_wp2_with fail
  refine (sm_1 _ _ _ w7 ra).mono ?_
  rintro _ w8 ⟨rfl, hb⟩
  have rb := rb.on hb
  have ru := ru.on hb
  have rc := rc.on hb
  have rd := rd.on hb
  have B8 := Bt B7 hb
  clear hb B7 ra
  go_wp2_with (first | (go_at_call 13; refine (num_any _ _).mono ?_; rintro e w' ⟨rfl, rfl⟩))
  refine (sm_1 _ _ _ w8 rb).mono ?_
  rintro _ w9 ⟨rfl, hb⟩
  have ru := ru.on hb
  have rc := rc.on hb
  have rd := rd.on hb
  have B9 := Bt B8 hb
  clear hb B8 rb
  go_wp2_with (first | (go_at_call 13; refine (num_any _ _).mono ?_; rintro e w' ⟨rfl, rfl⟩))
  refine (sm_1 _ _ _ w9 ru).mono ?_
  rintro _ w10 ⟨rfl, hb⟩
  have rc := rc.on hb
  have rd := rd.on hb
  have B10 := Bt B9 hb
  clear hb B9 ru
  go_wp2_with (first | (go_at_call 13; refine (num_any _ _).mono ?_; rintro e w' ⟨rfl, rfl⟩))
  refine (sm_1 _ _ _ w10 rc).mono ?_
  rintro _ w11 ⟨rfl, hb⟩
  have rd := rd.on hb
  have B11 := Bt B10 hb
  clear hb B10 rc
  go_wp2_with (first | (go_at_call 13; refine (num_any _ _).mono ?_; rintro e w' ⟨rfl, rfl⟩))
  refine (sm_2 _ _ _ _ _ w11 rd).mono ?_
  rintro _ w12 ⟨rfl, hb⟩
  have rd := rd.on hb
  have B12 := Bt B11 hb
  clear hb B11
  go_wp2_with (first | (go_at_call 13; refine (num_any _ _).mono ?_; rintro e w' ⟨rfl, rfl⟩))
  refine (has_any _ [(0, 1), (2, 5)] 4 true w12 rd (by rw [has2]; simp)).mono ?_
  rintro _ w13 ⟨rfl, hb⟩
  have rd := rd.on hb
  have B13 := Bt B12 hb
  clear hb B12
  go_wp2_with fail
  refine (has_any _ [(0, 1), (2, 5)] 1 false w13 rd (by rw [has2]; simp)).mono ?_
  rintro _ w14 ⟨rfl, hb⟩
  have rd := rd.on hb
  have B14 := Bt B13 hb
  clear hb B13
  go_wp2_with fail
  refine (may_any _ [(0, 1), (2, 5)] true w14 rd (by simp; exact mixC.1)).mono ?_
  rintro _ w15 ⟨rfl, hb⟩
  have B15 := Bt B14 hb
  go_wp2_with fail
  go_ret
  exact ⟨rfl, B15⟩
end Go.Proofs.Ytkeljklohmbohaa.CovW
