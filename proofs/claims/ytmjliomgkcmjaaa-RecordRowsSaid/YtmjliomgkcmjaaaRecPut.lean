/-
  The walks of the program's own Put and Get.
-/
import Derived.Test.YtmjliomgkcmjaaaRecMayD
import Derived.Test.YtmjliomgkcmjaaaRecRdF
namespace Go.Proofs.Ytmjliomgkcmjaaa.RecW
open Go.RowKit Shp IntW WideW CovW ShpW
set_option linter.all false

/-- What Put answers. -/
def PutOut (x : RecV) (s : Byts) (e : Int) : Prop := (RMay x ∧ (putRec x).length ≤ 8192 ∧ s = putRec x ∧ e = 0) ∨ (¬ (RMay x ∧ (putRec x).length ≤ 8192) ∧ s = [] ∧ e = 1100)
theorem putOut_is (x : RecV) : ∃ s e, PutOut x s e := by
  by_cases h : RMay x ∧ (putRec x).length ≤ 8192
  · exact ⟨_, _, .inl ⟨h.1, h.2, rfl, rfl⟩⟩
  · exact ⟨_, _, .inr ⟨h, rfl, rfl⟩⟩
set_option maxRecDepth 100000 in
set_option maxHeartbeats 2000000 in
theorem put_any (v : Value) (x : RecV) (s : Byts) (e : Int) (w : World) (hv : RdRec w w.heap.size v x) (ho : PutOut x s e) :
    Calls Try.prog 6 #[v] w fun y w' => y = .returned (.tuple #[strV s, .int .i64 e]) ∧ Below w.heap.size w w' := by
  have HO := Lib.hid ho
  clear ho
  unfold strV
  have hvv := hv
  obtain ⟨v1, v2, vo, rfl, h1, h2, h3⟩ := hv
  obtain ⟨A1, c1, rfl⟩ := rdi_form h1
  obtain ⟨A2, c2, rfl⟩ := rdi_form h2
  obtain ⟨A3, c3, rfl⟩ := h3.form
  clear h1 h2 h3
  obtain ⟨rR, HR⟩ := has_bool (RMay x)
  obtain ⟨kind, hk⟩ : ∃ z, x.kind = z := ⟨_, rfl⟩
  obtain ⟨node, hk1⟩ : ∃ z, x.node = z := ⟨_, rfl⟩
  obtain ⟨sq, hk2⟩ : ∃ z, x.sq = z := ⟨_, rfl⟩
  obtain ⟨base, hk3⟩ : ∃ z, x.base = z := ⟨_, rfl⟩
  obtain ⟨commit, hk4⟩ : ∃ z, x.commit = z := ⟨_, rfl⟩
  obtain ⟨ep, hk5⟩ : ∃ z, x.ep = z := ⟨_, rfl⟩
  obtain ⟨n1, hk6⟩ : ∃ z, x.ss.length = z := ⟨_, rfl⟩
  obtain ⟨n2, hk7⟩ : ∃ z, x.os.length = z := ⟨_, rfl⟩
  obtain ⟨n3, hk8⟩ : ∃ z, x.ops.length = z := ⟨_, rfl⟩
  rw [hk, hk1, hk2, hk3, hk4, hk5, hk6, hk7, hk8] at hvv ⊢
  clear hk hk1 hk2 hk3 hk4 hk5 hk6 hk7 hk8
  have b1 := Blk.new w 38 #[.int .i64 kind, .int .i64 node, .int .i64 sq, .int .i64 base, .bool commit, .int .i64 ep, .slice A1 n1 c1, .slice A2 n2 c2, .slice A3 n3 c3]
  have B1 := Ba (w := w) (o := .cells #[.int .i64 kind, .int .i64 node, .int .i64 sq, .int .i64 base, .bool commit, .int .i64 ep, .slice A1 n1 c1, .slice A2 n2 c2, .slice A3 n3 c3] 38) B0
  have HV1 := Lib.hid (hvv.on B1)
  clear hvv
  go_enter Try.func6, Try.ntmps6
  go_upto_region 1 with fail
  generalize w.alloc (.cells #[.int .i64 kind, .int .i64 node, .int .i64 sq, .int .i64 base, .bool commit, .int .i64 ep, .slice A1 n1 c1, .slice A2 n2 c2, .slice A3 n3 c3] 38) = w1 at *
  have d0 := b1.cell 0
  have d1 := b1.cell 1
  have d2 := b1.cell 2
  have d3 := b1.cell 3
  have d4 := b1.cell 4
  have d5 := b1.cell 5
  have d6 := b1.cell 6
  have d7 := b1.cell 7
  have d8 := b1.cell 8
  simp at d0 d1 d2 d3 d4 d5 d6 d7 d8
  go_wp2_with fail
  refine (recordMay_any _ x rR w1 HV1.out HR.out).mono ?_
  rintro _ w2 ⟨rfl, hb⟩
  have b2 := b1.keep hb
  have HV2 := Lib.hid (HV1.out.on hb)
  have B2 := Bt B1 hb
  clear d0 d1 d2 d3 d4 d5 d6 d7 d8 b1 B1 hb
  cases rR
  case false =>
    have hn : s = [] ∧ e = 1100 := by
      rcases HO.out with h | h
      · have := HR.out.2 h.1
        simp at this
      · exact h.2
    obtain ⟨rfl, rfl⟩ := hn
    go_wp2_with fail
    go_ret2
    exact ⟨rfl, B2⟩
  have d0 := b2.cell 0
  have d1 := b2.cell 1
  have d2 := b2.cell 2
  have d3 := b2.cell 3
  have d4 := b2.cell 4
  have d5 := b2.cell 5
  have d6 := b2.cell 6
  have d7 := b2.cell 7
  have d8 := b2.cell 8
  simp at d0 d1 d2 d3 d4 d5 d6 d7 d8
  have WR := write_any _ x w2 HV2.out (HR.out.1 (by simp))
  obtain ⟨bs, hbs⟩ : ∃ bs, putRec x = bs := ⟨_, rfl⟩
  rw [hbs] at WR
  have HBS := Lib.hid hbs
  clear hbs
  unfold strV at WR
  go_wp2_with fail
  refine WR.mono ?_
  rintro _ w3 ⟨rfl, hb3⟩
  have B3 := Bt B2 hb3
  clear WR
  by_cases hl : bs.length ≤ 8192
  · have hn : s = bs ∧ e = 0 := by
      rcases HO.out with h | h
      · exact ⟨h.2.2.1.trans HBS.out, h.2.2.2⟩
      · exact absurd ⟨HR.out.1 (by simp), by rw [HBS.out]; exact hl⟩ h.1
    obtain ⟨rfl, rfl⟩ := hn
    have d : decide ((8192 : Int) < (s.length : Int)) = false := decide_eq_false (by omega)
    clear hl
    go_wp2_with fail
    go_ret2
    exact ⟨rfl, B3⟩
  · have hn : s = [] ∧ e = 1100 := by
      rcases HO.out with h | h
      · exact absurd (by have := h.2.1; rw [HBS.out] at this; exact this) hl
      · exact h.2
    obtain ⟨rfl, rfl⟩ := hn
    have d : decide ((8192 : Int) < (bs.length : Int)) = true := decide_eq_true (by omega)
    clear hl
    go_wp2_with fail
    go_ret2
    exact ⟨rfl, B3⟩
end Go.Proofs.Ytmjliomgkcmjaaa.RecW
