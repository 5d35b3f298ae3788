import Derived.Test.YtmjliomgkcmjaaaGreatHilbBits
import Derived.Test.YtmjliomgkcmjaaaGreatRecRdF
import Derived.Test.YtmjliomgkcmjaaaGreatRecRdA
import Derived.Test.YtmjliomgkcmjaaaGreatGeomPt
import Derived.Deep.DeepCutAuto
/-
  The walks of the program's own Put and Get.
-/
namespace Go.Proofs.YtmjliomgkcmjaaaGreat.RecW
open Go.RowKit Shp IntW WideW CovW ShpW
set_option linter.all false

/-- What Put answers. -/
def PutOut (x : RecV) (s : Byts) (e : Int) : Prop := (RMay x ∧ (putRec x).length ≤ 8192 ∧ s = putRec x ∧ e = 0) ∨ (¬ (RMay x ∧ (putRec x).length ≤ 8192) ∧ s = [] ∧ e = 1100)
theorem putOut_is (x : RecV) : ∃ s e, PutOut x s e := by
  by_cases h : RMay x ∧ (putRec x).length ≤ 8192
  · exact ⟨_, _, .inl ⟨h.1, h.2, rfl, rfl⟩⟩
  · exact ⟨_, _, .inr ⟨h, rfl, rfl⟩⟩
set_option maxRecDepth 100000 in
set_option maxHeartbeats 2000000 in
theorem put_any (v : Value) (x : RecV) (s : Byts) (e : Int) (w : World) (hv : RdRec w w.heap.size v x) (ho : PutOut x s e) :
    Calls Tryz.prog 6 #[v] w fun y w' => y = .returned (.tuple #[strV s, .int .i64 e]) ∧ Below w.heap.size w w' := by
  have HO := Lib.hid ho
  clear ho
  unfold strV
  have hvv := hv
  obtain ⟨v1, v2, vo, rfl, h1, h2, h3⟩ := hv
  obtain ⟨A1, c1, rfl⟩ := rdi_form h1
  obtain ⟨A2, c2, rfl⟩ := rdi_form h2
  obtain ⟨A3, c3, rfl⟩ := h3.form
  clear h1 h2 h3
  obtain ⟨rR, HR⟩ := has_bool (RMay x)
  obtain ⟨kind, hk⟩ : ∃ z, x.kind = z := ⟨_, rfl⟩
  obtain ⟨node, hk1⟩ : ∃ z, x.node = z := ⟨_, rfl⟩
  obtain ⟨sq, hk2⟩ : ∃ z, x.sq = z := ⟨_, rfl⟩
  obtain ⟨base, hk3⟩ : ∃ z, x.base = z := ⟨_, rfl⟩
  obtain ⟨commit, hk4⟩ : ∃ z, x.commit = z := ⟨_, rfl⟩
  obtain ⟨ep, hk5⟩ : ∃ z, x.ep = z := ⟨_, rfl⟩
  obtain ⟨n1, hk6⟩ : ∃ z, x.ss.length = z := ⟨_, rfl⟩
  obtain ⟨n2, hk7⟩ : ∃ z, x.os.length = z := ⟨_, rfl⟩
  obtain ⟨n3, hk8⟩ : ∃ z, x.ops.length = z := ⟨_, rfl⟩
  rw [hk, hk1, hk2, hk3, hk4, hk5, hk6, hk7, hk8] at hvv ⊢
  clear hk hk1 hk2 hk3 hk4 hk5 hk6 hk7 hk8
  have b1 := Blk.new w 29 #[.int .i64 kind, .int .i64 node, .int .i64 sq, .int .i64 base, .bool commit, .int .i64 ep, .slice A1 n1 c1, .slice A2 n2 c2, .slice A3 n3 c3]
  have B1 := Ba (w := w) (o := .cells #[.int .i64 kind, .int .i64 node, .int .i64 sq, .int .i64 base, .bool commit, .int .i64 ep, .slice A1 n1 c1, .slice A2 n2 c2, .slice A3 n3 c3] 29) B0
  have HV1 := Lib.hid (hvv.on B1)
  clear hvv
  go_enter Tryz.func6, Tryz.ntmps6
  go_upto_region 1 with fail
  generalize w.alloc (.cells #[.int .i64 kind, .int .i64 node, .int .i64 sq, .int .i64 base, .bool commit, .int .i64 ep, .slice A1 n1 c1, .slice A2 n2 c2, .slice A3 n3 c3] 29) = w1 at *
  have d0 := b1.cell 0
  have d1 := b1.cell 1
  have d2 := b1.cell 2
  have d3 := b1.cell 3
  have d4 := b1.cell 4
  have d5 := b1.cell 5
  have d6 := b1.cell 6
  have d7 := b1.cell 7
  have d8 := b1.cell 8
  simp at d0 d1 d2 d3 d4 d5 d6 d7 d8
  go_wp2_with fail
  refine (recordMay_any _ x rR w1 HV1.out HR.out).mono ?_
  rintro _ w2 ⟨rfl, hb⟩
  have b2 := b1.keep hb
  have HV2 := Lib.hid (HV1.out.on hb)
  have B2 := Bt B1 hb
  clear d0 d1 d2 d3 d4 d5 d6 d7 d8 b1 B1 hb
  cases rR
  case false =>
    have hn : s = [] ∧ e = 1100 := by
      rcases HO.out with h | h
      · have := HR.out.2 h.1
        simp at this
      · exact h.2
    obtain ⟨rfl, rfl⟩ := hn
    go_wp2_with fail
    go_ret2
    exact ⟨rfl, B2⟩
  have d0 := b2.cell 0
  have d1 := b2.cell 1
  have d2 := b2.cell 2
  have d3 := b2.cell 3
  have d4 := b2.cell 4
  have d5 := b2.cell 5
  have d6 := b2.cell 6
  have d7 := b2.cell 7
  have d8 := b2.cell 8
  simp at d0 d1 d2 d3 d4 d5 d6 d7 d8
  have WR := write_any _ x w2 HV2.out (HR.out.1 (by simp))
  obtain ⟨bs, hbs⟩ : ∃ bs, putRec x = bs := ⟨_, rfl⟩
  rw [hbs] at WR
  have HBS := Lib.hid hbs
  clear hbs
  unfold strV at WR
  go_wp2_with fail
  refine WR.mono ?_
  rintro _ w3 ⟨rfl, hb3⟩
  have B3 := Bt B2 hb3
  clear WR
  by_cases hl : bs.length ≤ 8192
  · have hn : s = bs ∧ e = 0 := by
      rcases HO.out with h | h
      · exact ⟨h.2.2.1.trans HBS.out, h.2.2.2⟩
      · exact absurd ⟨HR.out.1 (by simp), by rw [HBS.out]; exact hl⟩ h.1
    obtain ⟨rfl, rfl⟩ := hn
    have d : decide ((8192 : Int) < (s.length : Int)) = false := decide_eq_false (by omega)
    clear hl
    go_wp2_with fail
    go_ret2
    exact ⟨rfl, B3⟩
  · have hn : s = [] ∧ e = 1100 := by
      rcases HO.out with h | h
      · exact absurd (by have := h.2.1; rw [HBS.out] at this; exact this) hl
      · exact h.2
    obtain ⟨rfl, rfl⟩ := hn
    have d : decide ((8192 : Int) < (bs.length : Int)) = true := decide_eq_true (by omega)
    clear hl
    go_wp2_with fail
    go_ret2
    exact ⟨rfl, B3⟩
end Go.Proofs.YtmjliomgkcmjaaaGreat.RecW

/-
  The walk of the program's own Get (written by tools/gen/recget.py).
-/
namespace Go.Proofs.YtmjliomgkcmjaaaGreat.RecW
open Go.RowKit Shp IntW WideW CovW ShpW
set_option linter.all false

theorem RVal.read {w : World} {lo hi : Nat} {v : Value} {r : RecV} (h : RVal w lo hi v r) (hs : SmallR r) : RdRec w hi v r := by
  obtain ⟨v1, v2, vo, e, h1, h2, h3⟩ := h
  exact ⟨v1, v2, vo, e, h1.read (by have := hs.1.1; omega), h2.read (by have := hs.1.2; omega), h3.read ⟨by have := hs.2.1; omega, fun o ho => (hs.2.2 o ho).few⟩⟩
theorem RVal.kept {w w' : World} {lo hi : Nat} {v : Value} {r : RecV} (h : RVal w lo hi v r) (k : Kt opAll lo hi w w') : RVal w' lo hi v r := by
  obtain ⟨v1, v2, vo, e, h1, h2, h3⟩ := h
  exact ⟨v1, v2, vo, e, h1.kept k (by simp [opAll]), h2.kept k (by simp [opAll]), h3.kept k⟩
theorem RVal.more {w : World} {lo hi hi' : Nat} {v : Value} {r : RecV} (h : RVal w lo hi v r) (k : hi ≤ hi') : RVal w lo hi' v r := by
  obtain ⟨v1, v2, vo, e, h1, h2, h3⟩ := h
  exact ⟨v1, v2, vo, e, h1.more k, h2.more k, h3.more k⟩
theorem RVal.less {w : World} {lo lo' hi : Nat} {v : Value} {r : RecV} (h : RVal w lo hi v r) (k : lo' ≤ lo) : RVal w lo' hi v r := by
  obtain ⟨v1, v2, vo, e, h1, h2, h3⟩ := h
  exact ⟨v1, v2, vo, e, h1.less k, h2.less k, h3.less k⟩
theorem RVal.zero (w : World) (lo hi : Nat) : RVal w lo hi (.agg #[.int .i64 0, .int .i64 0, .int .i64 0, .int .i64 0, .bool false, .int .i64 0, .slice none 0 0, .slice none 0 0, .slice none 0 0]) rec0 := ⟨_, _, _, rfl, IRow.nil _ _ _, IRow.nil _ _ _, ORow.nil _ _ _⟩
theorem small_zero : SmallR rec0 := ⟨by simp [rec0], by simp [rec0]⟩
/-- What Get answers. -/
def GetOut (s : Byts) (r : RecV) (e : Int) : Prop := (RMay r ∧ putRec r = s ∧ s.length ≤ 8192 ∧ e = 0) ∨ ((¬ ∃ x, RMay x ∧ putRec x = s ∧ s.length ≤ 8192) ∧ r = rec0 ∧ e = 1100)
theorem put_inj {x y : RecV} (hx : RMay x) (hy : RMay y) (h : putRec x = putRec y) : x = y := by
  have h1 := gRec_put x hx
  have h2 := gRec_put y hy
  rw [h, h2] at h1
  simp only [Option.some.injEq, Prod.mk.injEq] at h1
  exact h1.1.symm
theorem getOut_uniq {s : Byts} {x y : RecV} {e f : Int} (h : GetOut s x e) (k : GetOut s y f) : x = y ∧ e = f := by
  rcases h with ⟨h1, h2, h3, rfl⟩ | ⟨h1, rfl, rfl⟩ <;> rcases k with ⟨k1, k2, k3, rfl⟩ | ⟨k1, rfl, rfl⟩
  · exact ⟨put_inj h1 k1 (h2.trans k2.symm), rfl⟩
  · exact absurd ⟨x, h1, h2, h3⟩ k1
  · exact absurd ⟨y, k1, k2, k3⟩ h1
  · exact ⟨rfl, rfl⟩
theorem getOut_is (s : Byts) : ∃ r e, GetOut s r e := by
  by_cases h : ∃ x, RMay x ∧ putRec x = s ∧ s.length ≤ 8192
  · obtain ⟨x, h1, h2, h3⟩ := h
    exact ⟨x, 0, .inl ⟨h1, h2, h3, rfl⟩⟩
  · exact ⟨_, _, .inr ⟨h, rfl, rfl⟩⟩
theorem getOut_of {s s' t : Byts} {r : RecV} {e : Int} (hg : Got gRec s r s') (hl : s.length ≤ 8192) (hp : PutOut r t e) : if e = 0 ∧ t = s then GetOut s r 0 else GetOut s rec0 1100 := by
  split
  · rename_i h
    obtain ⟨rfl, rfl⟩ := h
    rcases hp with ⟨h1, h2, h3, -⟩ | h
    · exact .inl ⟨h1, h3.symm, hl, rfl⟩
    · exact absurd h.2.2 (by simp)
  · rename_i h
    refine .inr ⟨?_, rfl, rfl⟩
    rintro ⟨x, h1, h2, h3⟩
    have h4 := gRec_put x h1
    rw [h2] at h4
    obtain ⟨rfl, -⟩ := hg.val h4
    rcases hp with ⟨-, -, k3, k4⟩ | k
    · exact h ⟨k4, k3.trans h2⟩
    · exact k.1 ⟨h1, by rw [h2]; exact h3⟩

theorem ne_yes (a b : Byts) (h : ¬ a = b) (w : World) : (binOp .neq 9 (strV a) (strV b)).run Tryz.prog w = .ok (.bool true) w := by
  rw [ne_str]
  simp [h]
set_option maxRecDepth 100000 in
set_option maxHeartbeats 2000000 in
theorem get_any (s : Byts) (w : World) (hs : s.length ≤ 100000 ∨ 8192 < s.length) :
    Calls Tryz.prog 8 #[strV s] w fun y w' => ∃ (v : Value) (r : RecV) (e : Int), y = .returned (.tuple #[v, .int .i64 e]) ∧ RVal w' w.heap.size w'.heap.size v r ∧ SmallR r ∧ GetOut s r e ∧ Below w.heap.size w w' := by
  obtain ⟨q, hq⟩ : ∃ q, w.heap.size = q := ⟨_, rfl⟩
  have a1 := Blk.new' w 29 #[.int .i64 0, .int .i64 0, .int .i64 0, .int .i64 0, .bool false, .int .i64 0, .slice none 0 0, .slice none 0 0, .slice none 0 0] hq.symm
  have B1 : Below w.heap.size w (w.alloc (.cells #[.int .i64 0, .int .i64 0, .int .i64 0, .int .i64 0, .bool false, .int .i64 0, .slice none 0 0, .slice none 0 0, .slice none 0 0] 29)) := Ba B0
  have ls1 : (w.alloc (.cells #[.int .i64 0, .int .i64 0, .int .i64 0, .int .i64 0, .bool false, .int .i64 0, .slice none 0 0, .slice none 0 0, .slice none 0 0] 29)).heap.size = q + 1 := by rw [alloc_size, hq]
  have HQ := Lib.hid hq
  have hwq : w.heap.size ≤ q := by omega
  by_cases hl : s.length ≤ 8192
  case neg =>
    have HNO : Hid (GetOut s rec0 1100) := Lib.hid (.inr ⟨fun ⟨x, h1, h2, h3⟩ => hl h3, rfl, rfl⟩)
    have hd : decide ((8192 : Int) < (s.length : Int)) = true := decide_eq_true (by omega)
    clear hl hs
    unfold strV
    go_enter Tryz.func8, Tryz.ntmps8
    go_upto_region 1 with fail
    generalize w.alloc (.cells #[.int .i64 0, .int .i64 0, .int .i64 0, .int .i64 0, .bool false, .int .i64 0, .slice none 0 0, .slice none 0 0, .slice none 0 0] 29) = w1 at *
    clear hq
    have d0 := a1.cell 0
    have d1 := a1.cell 1
    have d2 := a1.cell 2
    have d3 := a1.cell 3
    have d4 := a1.cell 4
    have d5 := a1.cell 5
    have d6 := a1.cell 6
    have d7 := a1.cell 7
    have d8 := a1.cell 8
    have f0 := a1.frozen 0
    have f1 := a1.frozen 1
    have f2 := a1.frozen 2
    have f3 := a1.frozen 3
    have f4 := a1.frozen 4
    have f5 := a1.frozen 5
    have f6 := a1.frozen 6
    have f7 := a1.frozen 7
    have f8 := a1.frozen 8
    simp at d0 d1 d2 d3 d4 d5 d6 d7 d8
    have a7 := (((((((((a1.set_ 0 (.int .i64 0)).set_ 1 (.int .i64 0)).set_ 2 (.int .i64 0)).set_ 3 (.int .i64 0)).set_ 4 (.bool false)).set_ 5 (.int .i64 0)).set_ 6 (.slice none 0 0)).set_ 7 (.slice none 0 0)).set_ 8 (.slice none 0 0))
    have e0 := a7.cell 0
    have e1 := a7.cell 1
    have e2 := a7.cell 2
    have e3 := a7.cell 3
    have e4 := a7.cell 4
    have e5 := a7.cell 5
    have e6 := a7.cell 6
    have e7 := a7.cell 7
    have e8 := a7.cell 8
    simp at e0 e1 e2 e3 e4 e5 e6 e7 e8
    have B7 : Below w.heap.size w (((((((((w1.setCell ⟨q, 0, none⟩ (.int .i64 0)).setCell ⟨q, 1, none⟩ (.int .i64 0)).setCell ⟨q, 2, none⟩ (.int .i64 0)).setCell ⟨q, 3, none⟩ (.int .i64 0)).setCell ⟨q, 4, none⟩ (.bool false)).setCell ⟨q, 5, none⟩ (.int .i64 0)).setCell ⟨q, 6, none⟩ (.slice none 0 0)).setCell ⟨q, 7, none⟩ (.slice none 0 0)).setCell ⟨q, 8, none⟩ (.slice none 0 0)) := (Bs (p := ⟨q, 8, none⟩) (u := .slice none 0 0) (Bs (p := ⟨q, 7, none⟩) (u := .slice none 0 0) (Bs (p := ⟨q, 6, none⟩) (u := .slice none 0 0) (Bs (p := ⟨q, 5, none⟩) (u := .int .i64 0) (Bs (p := ⟨q, 4, none⟩) (u := .bool false) (Bs (p := ⟨q, 3, none⟩) (u := .int .i64 0) (Bs (p := ⟨q, 2, none⟩) (u := .int .i64 0) (Bs (p := ⟨q, 1, none⟩) (u := .int .i64 0) (Bs (p := ⟨q, 0, none⟩) (u := .int .i64 0) B1 hwq) hwq) hwq) hwq) hwq) hwq) hwq) hwq) hwq)
    go_wp2_with fail
    generalize (((((((((w1.setCell ⟨q, 0, none⟩ (.int .i64 0)).setCell ⟨q, 1, none⟩ (.int .i64 0)).setCell ⟨q, 2, none⟩ (.int .i64 0)).setCell ⟨q, 3, none⟩ (.int .i64 0)).setCell ⟨q, 4, none⟩ (.bool false)).setCell ⟨q, 5, none⟩ (.int .i64 0)).setCell ⟨q, 6, none⟩ (.slice none 0 0)).setCell ⟨q, 7, none⟩ (.slice none 0 0)).setCell ⟨q, 8, none⟩ (.slice none 0 0)) = w7 at *
    have hqq := HQ.out
    refine bodyPost_ret (v := .tuple #[.agg #[.int .i64 0, .int .i64 0, .int .i64 0, .int .i64 0, .bool false, .int .i64 0, .slice none 0 0, .slice none 0 0, .slice none 0 0], .int .i64 1100]) (by simp [e0, e1, e2, e3, e4, e5, e6, e7, e8, results, Tryz.results8, go_sem]) rfl ⟨_, rec0, 1100, rfl, ?_, ?_, ?_, B7⟩
    · exact RVal.zero _ _ _
    · exact small_zero
    · exact HNO.out
  have hs' : s.length ≤ 100000 := by omega
  have hd : decide ((8192 : Int) < (s.length : Int)) = false := decide_eq_false (by omega)
  have HL := Lib.hid hl
  have RD := read_any s (w.alloc (.cells #[.int .i64 0, .int .i64 0, .int .i64 0, .int .i64 0, .bool false, .int .i64 0, .slice none 0 0, .slice none 0 0, .slice none 0 0] 29)) hs'
  rw [ls1] at RD
  unfold strV at RD
  clear hl hs
  unfold strV
  go_enter Tryz.func8, Tryz.ntmps8
  go_upto_region 1 with fail
  generalize w.alloc (.cells #[.int .i64 0, .int .i64 0, .int .i64 0, .int .i64 0, .bool false, .int .i64 0, .slice none 0 0, .slice none 0 0, .slice none 0 0] 29) = w1 at *
  clear hq
  go_wp2_with fail
  refine RD.mono ?_
  rintro _ w2 ⟨_, r, s', rfl, ⟨v1, v2, vo, rfl, h1, h2, h3⟩, hsm, hb, hg⟩
  clear RD
  obtain ⟨A1, c1, e1⟩ := row_slice h1.1
  obtain ⟨A2, c2, e2⟩ := row_slice h2.1
  obtain ⟨A3, c3, e3⟩ : ∃ A c, vo = .slice A r.ops.length c := by obtain ⟨us, h, -⟩ := h3; exact row_slice h.1
  subst e1 e2 e3
  have HG := Lib.hid hg
  have HS := Lib.hid hsm
  have HV : Hid (RVal w2 (q + 1) w2.heap.size (.agg #[.int .i64 r.kind, .int .i64 r.node, .int .i64 r.sq, .int .i64 r.base, .bool r.commit, .int .i64 r.ep, .slice A1 r.ss.length c1, .slice A2 r.os.length c2, .slice A3 r.ops.length c3]) r) := Lib.hid ⟨_, _, _, rfl, h1, h2, h3⟩
  clear h1 h2 h3 hg hsm
  obtain ⟨kind, hk⟩ : ∃ z, r.kind = z := ⟨_, rfl⟩
  obtain ⟨node, hk1⟩ : ∃ z, r.node = z := ⟨_, rfl⟩
  obtain ⟨sq, hk2⟩ : ∃ z, r.sq = z := ⟨_, rfl⟩
  obtain ⟨base, hk3⟩ : ∃ z, r.base = z := ⟨_, rfl⟩
  obtain ⟨commit, hk4⟩ : ∃ z, r.commit = z := ⟨_, rfl⟩
  obtain ⟨ep, hk5⟩ : ∃ z, r.ep = z := ⟨_, rfl⟩
  obtain ⟨n1, hk6⟩ : ∃ z, r.ss.length = z := ⟨_, rfl⟩
  obtain ⟨n2, hk7⟩ : ∃ z, r.os.length = z := ⟨_, rfl⟩
  obtain ⟨n3, hk8⟩ : ∃ z, r.ops.length = z := ⟨_, rfl⟩
  rw [hk, hk1, hk2, hk3, hk4, hk5, hk6, hk7, hk8] at HV ⊢
  clear hk hk1 hk2 hk3 hk4 hk5 hk6 hk7 hk8
  have b3 := Blk.new w2 29 #[.int .i64 kind, .int .i64 node, .int .i64 sq, .int .i64 base, .bool commit, .int .i64 ep, .slice A1 n1 c1, .slice A2 n2 c2, .slice A3 n3 c3]
  obtain ⟨g, hgg⟩ : ∃ g, w2.heap.size = g := ⟨_, rfl⟩
  have hqg : q < g := by have := hb.size; omega
  have a2 := a1.keep (hb.mono (by omega))
  have a3 := a2.alloc (.cells #[.int .i64 kind, .int .i64 node, .int .i64 sq, .int .i64 base, .bool commit, .int .i64 ep, .slice A1 n1 c1, .slice A2 n2 c2, .slice A3 n3 c3] 29)
  have HV3 : Hid (RVal (w2.alloc (.cells #[.int .i64 kind, .int .i64 node, .int .i64 sq, .int .i64 base, .bool commit, .int .i64 ep, .slice A1 n1 c1, .slice A2 n2 c2, .slice A3 n3 c3] 29)) (q + 1) g (.agg #[.int .i64 kind, .int .i64 node, .int .i64 sq, .int .i64 base, .bool commit, .int .i64 ep, .slice A1 n1 c1, .slice A2 n2 c2, .slice A3 n3 c3]) r) := Lib.hid (hgg ▸ HV.out.kept (Kt.of_below (Ba B0) _ (Nat.le_refl _)))
  have B3 : Below w.heap.size w (w2.alloc (.cells #[.int .i64 kind, .int .i64 node, .int .i64 sq, .int .i64 base, .bool commit, .int .i64 ep, .slice A1 n1 c1, .slice A2 n2 c2, .slice A3 n3 c3] 29)) := Ba (B1.trans (hb.mono (by omega)))
  have ls3 : (w2.alloc (.cells #[.int .i64 kind, .int .i64 node, .int .i64 sq, .int .i64 base, .bool commit, .int .i64 ep, .slice A1 n1 c1, .slice A2 n2 c2, .slice A3 n3 c3] 29)).heap.size = g + 1 := by rw [alloc_size, hgg]
  rw [hgg] at b3
  obtain ⟨t, e, hp⟩ := putOut_is r
  have HP := Lib.hid (getOut_of HG.out HL.out hp)
  go_upto_region 4 with fail
  generalize w2.alloc (.cells #[.int .i64 kind, .int .i64 node, .int .i64 sq, .int .i64 base, .bool commit, .int .i64 ep, .slice A1 n1 c1, .slice A2 n2 c2, .slice A3 n3 c3] 29) = w3 at *
  have PT := put_any (.agg #[.int .i64 kind, .int .i64 node, .int .i64 sq, .int .i64 base, .bool commit, .int .i64 ep, .slice A1 n1 c1, .slice A2 n2 c2, .slice A3 n3 c3]) r t e w3 (by rw [ls3]; obtain ⟨y1, y2, y3, k, k1, k2, k3⟩ := HV3.out.read HS.out; exact ⟨y1, y2, y3, k, k1.more (by omega), k2.more (by omega), k3.more (by omega)⟩) hp
  have HPP := Lib.hid hp
  clear hp hb
  have d0 := b3.cell 0
  have d1 := b3.cell 1
  have d2 := b3.cell 2
  have d3 := b3.cell 3
  have d4 := b3.cell 4
  have d5 := b3.cell 5
  have d6 := b3.cell 6
  have d7 := b3.cell 7
  have d8 := b3.cell 8
  simp at d0 d1 d2 d3 d4 d5 d6 d7 d8
  unfold strV at PT
  go_wp2_with fail
  refine PT.mono ?_
  rintro _ w4 ⟨rfl, hb4⟩
  clear PT d0 d1 d2 d3 d4 d5 d6 d7 d8
  have b4 := b3.keep hb4
  have a4 := a3.keep hb4
  have B4 := Bt B3 hb4
  have HV4 : Hid (RVal w4 (q + 1) g (.agg #[.int .i64 kind, .int .i64 node, .int .i64 sq, .int .i64 base, .bool commit, .int .i64 ep, .slice A1 n1 c1, .slice A2 n2 c2, .slice A3 n3 c3]) r) := Lib.hid (HV3.out.kept (Kt.of_below hb4 _ (by omega)))
  have ls4 : g + 1 ≤ w4.heap.size := by have := hb4.size; omega
  have EQ := fun w => ne_str t s w
  have EG := fun x y w => ne_guard x y t s w
  unfold strV at EQ EG
  clear hb4 b3 a3 B3 a1 a2 ls3 ls1 B1
  by_cases hok : e = 0 ∧ t = s
  case pos =>
    obtain ⟨rfl, rfl⟩ := hok
    have ho := HP.out
    rw [if_pos ⟨rfl, rfl⟩] at ho
    have HO := Lib.hid ho
    clear ho HP
    simp only [decide_true, Bool.not_true] at EQ
    go_upto_region 7 with fail
    clear EQ EG
    have u0 := b4.cell 0
    have u1 := b4.cell 1
    have u2 := b4.cell 2
    have u3 := b4.cell 3
    have u4 := b4.cell 4
    have u5 := b4.cell 5
    have u6 := b4.cell 6
    have u7 := b4.cell 7
    have u8 := b4.cell 8
    simp at u0 u1 u2 u3 u4 u5 u6 u7 u8
    have d0 := a4.cell 0
    have d1 := a4.cell 1
    have d2 := a4.cell 2
    have d3 := a4.cell 3
    have d4 := a4.cell 4
    have d5 := a4.cell 5
    have d6 := a4.cell 6
    have d7 := a4.cell 7
    have d8 := a4.cell 8
    have f0 := a4.frozen 0
    have f1 := a4.frozen 1
    have f2 := a4.frozen 2
    have f3 := a4.frozen 3
    have f4 := a4.frozen 4
    have f5 := a4.frozen 5
    have f6 := a4.frozen 6
    have f7 := a4.frozen 7
    have f8 := a4.frozen 8
    simp at d0 d1 d2 d3 d4 d5 d6 d7 d8
    have a7 := (((((((((a4.set_ 0 (.int .i64 kind)).set_ 1 (.int .i64 node)).set_ 2 (.int .i64 sq)).set_ 3 (.int .i64 base)).set_ 4 (.bool commit)).set_ 5 (.int .i64 ep)).set_ 6 (.slice A1 n1 c1)).set_ 7 (.slice A2 n2 c2)).set_ 8 (.slice A3 n3 c3))
    have e0 := a7.cell 0
    have e1 := a7.cell 1
    have e2 := a7.cell 2
    have e3 := a7.cell 3
    have e4 := a7.cell 4
    have e5 := a7.cell 5
    have e6 := a7.cell 6
    have e7 := a7.cell 7
    have e8 := a7.cell 8
    simp at e0 e1 e2 e3 e4 e5 e6 e7 e8
    have B7 : Below w.heap.size w (((((((((w4.setCell ⟨q, 0, none⟩ (.int .i64 kind)).setCell ⟨q, 1, none⟩ (.int .i64 node)).setCell ⟨q, 2, none⟩ (.int .i64 sq)).setCell ⟨q, 3, none⟩ (.int .i64 base)).setCell ⟨q, 4, none⟩ (.bool commit)).setCell ⟨q, 5, none⟩ (.int .i64 ep)).setCell ⟨q, 6, none⟩ (.slice A1 n1 c1)).setCell ⟨q, 7, none⟩ (.slice A2 n2 c2)).setCell ⟨q, 8, none⟩ (.slice A3 n3 c3)) := (Bs (p := ⟨q, 8, none⟩) (u := .slice A3 n3 c3) (Bs (p := ⟨q, 7, none⟩) (u := .slice A2 n2 c2) (Bs (p := ⟨q, 6, none⟩) (u := .slice A1 n1 c1) (Bs (p := ⟨q, 5, none⟩) (u := .int .i64 ep) (Bs (p := ⟨q, 4, none⟩) (u := .bool commit) (Bs (p := ⟨q, 3, none⟩) (u := .int .i64 base) (Bs (p := ⟨q, 2, none⟩) (u := .int .i64 sq) (Bs (p := ⟨q, 1, none⟩) (u := .int .i64 node) (Bs (p := ⟨q, 0, none⟩) (u := .int .i64 kind) B4 hwq) hwq) hwq) hwq) hwq) hwq) hwq) hwq) hwq)
    have KT : Kt opAll (q + 1) g w4 (((((((((w4.setCell ⟨q, 0, none⟩ (.int .i64 kind)).setCell ⟨q, 1, none⟩ (.int .i64 node)).setCell ⟨q, 2, none⟩ (.int .i64 sq)).setCell ⟨q, 3, none⟩ (.int .i64 base)).setCell ⟨q, 4, none⟩ (.bool commit)).setCell ⟨q, 5, none⟩ (.int .i64 ep)).setCell ⟨q, 6, none⟩ (.slice A1 n1 c1)).setCell ⟨q, 7, none⟩ (.slice A2 n2 c2)).setCell ⟨q, 8, none⟩ (.slice A3 n3 c3)) :=
      fun i cs t z1 z2 z3 z4 => ((Below.heap_setCell _ _ _ i (by show i ≠ q; omega)).trans ((Below.heap_setCell _ _ _ i (by show i ≠ q; omega)).trans ((Below.heap_setCell _ _ _ i (by show i ≠ q; omega)).trans ((Below.heap_setCell _ _ _ i (by show i ≠ q; omega)).trans ((Below.heap_setCell _ _ _ i (by show i ≠ q; omega)).trans ((Below.heap_setCell _ _ _ i (by show i ≠ q; omega)).trans ((Below.heap_setCell _ _ _ i (by show i ≠ q; omega)).trans ((Below.heap_setCell _ _ _ i (by show i ≠ q; omega)).trans ((Below.heap_setCell _ _ _ i (by show i ≠ q; omega)).trans z4)))))))))
    have s7 : (((((((((w4.setCell ⟨q, 0, none⟩ (.int .i64 kind)).setCell ⟨q, 1, none⟩ (.int .i64 node)).setCell ⟨q, 2, none⟩ (.int .i64 sq)).setCell ⟨q, 3, none⟩ (.int .i64 base)).setCell ⟨q, 4, none⟩ (.bool commit)).setCell ⟨q, 5, none⟩ (.int .i64 ep)).setCell ⟨q, 6, none⟩ (.slice A1 n1 c1)).setCell ⟨q, 7, none⟩ (.slice A2 n2 c2)).setCell ⟨q, 8, none⟩ (.slice A3 n3 c3)).heap.size = w4.heap.size := by simp [World.setCell]
    go_wp2_with fail
    generalize (((((((((w4.setCell ⟨q, 0, none⟩ (.int .i64 kind)).setCell ⟨q, 1, none⟩ (.int .i64 node)).setCell ⟨q, 2, none⟩ (.int .i64 sq)).setCell ⟨q, 3, none⟩ (.int .i64 base)).setCell ⟨q, 4, none⟩ (.bool commit)).setCell ⟨q, 5, none⟩ (.int .i64 ep)).setCell ⟨q, 6, none⟩ (.slice A1 n1 c1)).setCell ⟨q, 7, none⟩ (.slice A2 n2 c2)).setCell ⟨q, 8, none⟩ (.slice A3 n3 c3)) = w7 at *
    have hqq := HQ.out
    refine bodyPost_ret (v := .tuple #[.agg #[.int .i64 kind, .int .i64 node, .int .i64 sq, .int .i64 base, .bool commit, .int .i64 ep, .slice A1 n1 c1, .slice A2 n2 c2, .slice A3 n3 c3], .int .i64 0]) (by simp [e0, e1, e2, e3, e4, e5, e6, e7, e8, results, Tryz.results8, go_sem]) rfl ⟨_, r, 0, rfl, ?_, ?_, ?_, B7⟩
    · rw [s7]
      exact ((HV4.out.kept KT).less (by omega)).more (by omega)
    · exact HS.out
    · exact HO.out
  have ho := HP.out
  rw [if_neg hok] at ho
  have HO := Lib.hid ho
  clear ho HP
  by_cases he : e = 0
  case neg =>
    have ez : (e != 0) = true := by simpa using he
    clear hok he
    go_upto_region 6 with fail
    clear EQ EG
    have d0 := a4.cell 0
    have d1 := a4.cell 1
    have d2 := a4.cell 2
    have d3 := a4.cell 3
    have d4 := a4.cell 4
    have d5 := a4.cell 5
    have d6 := a4.cell 6
    have d7 := a4.cell 7
    have d8 := a4.cell 8
    have f0 := a4.frozen 0
    have f1 := a4.frozen 1
    have f2 := a4.frozen 2
    have f3 := a4.frozen 3
    have f4 := a4.frozen 4
    have f5 := a4.frozen 5
    have f6 := a4.frozen 6
    have f7 := a4.frozen 7
    have f8 := a4.frozen 8
    simp at d0 d1 d2 d3 d4 d5 d6 d7 d8
    have a7 := (((((((((a4.set_ 0 (.int .i64 0)).set_ 1 (.int .i64 0)).set_ 2 (.int .i64 0)).set_ 3 (.int .i64 0)).set_ 4 (.bool false)).set_ 5 (.int .i64 0)).set_ 6 (.slice none 0 0)).set_ 7 (.slice none 0 0)).set_ 8 (.slice none 0 0))
    have e0 := a7.cell 0
    have e1 := a7.cell 1
    have e2 := a7.cell 2
    have e3 := a7.cell 3
    have e4 := a7.cell 4
    have e5 := a7.cell 5
    have e6 := a7.cell 6
    have e7 := a7.cell 7
    have e8 := a7.cell 8
    simp at e0 e1 e2 e3 e4 e5 e6 e7 e8
    have B7 : Below w.heap.size w (((((((((w4.setCell ⟨q, 0, none⟩ (.int .i64 0)).setCell ⟨q, 1, none⟩ (.int .i64 0)).setCell ⟨q, 2, none⟩ (.int .i64 0)).setCell ⟨q, 3, none⟩ (.int .i64 0)).setCell ⟨q, 4, none⟩ (.bool false)).setCell ⟨q, 5, none⟩ (.int .i64 0)).setCell ⟨q, 6, none⟩ (.slice none 0 0)).setCell ⟨q, 7, none⟩ (.slice none 0 0)).setCell ⟨q, 8, none⟩ (.slice none 0 0)) := (Bs (p := ⟨q, 8, none⟩) (u := .slice none 0 0) (Bs (p := ⟨q, 7, none⟩) (u := .slice none 0 0) (Bs (p := ⟨q, 6, none⟩) (u := .slice none 0 0) (Bs (p := ⟨q, 5, none⟩) (u := .int .i64 0) (Bs (p := ⟨q, 4, none⟩) (u := .bool false) (Bs (p := ⟨q, 3, none⟩) (u := .int .i64 0) (Bs (p := ⟨q, 2, none⟩) (u := .int .i64 0) (Bs (p := ⟨q, 1, none⟩) (u := .int .i64 0) (Bs (p := ⟨q, 0, none⟩) (u := .int .i64 0) B4 hwq) hwq) hwq) hwq) hwq) hwq) hwq) hwq) hwq)
    go_wp2_with fail
    generalize (((((((((w4.setCell ⟨q, 0, none⟩ (.int .i64 0)).setCell ⟨q, 1, none⟩ (.int .i64 0)).setCell ⟨q, 2, none⟩ (.int .i64 0)).setCell ⟨q, 3, none⟩ (.int .i64 0)).setCell ⟨q, 4, none⟩ (.bool false)).setCell ⟨q, 5, none⟩ (.int .i64 0)).setCell ⟨q, 6, none⟩ (.slice none 0 0)).setCell ⟨q, 7, none⟩ (.slice none 0 0)).setCell ⟨q, 8, none⟩ (.slice none 0 0)) = w7 at *
    have hqq := HQ.out
    refine bodyPost_ret (v := .tuple #[.agg #[.int .i64 0, .int .i64 0, .int .i64 0, .int .i64 0, .bool false, .int .i64 0, .slice none 0 0, .slice none 0 0, .slice none 0 0], .int .i64 1100]) (by simp [e0, e1, e2, e3, e4, e5, e6, e7, e8, results, Tryz.results8, go_sem]) rfl ⟨_, rec0, 1100, rfl, ?_, ?_, ?_, B7⟩
    · exact RVal.zero _ _ _
    · exact small_zero
    · exact HO.out
  subst he
  have hne : ¬ t = s := fun h => hok ⟨rfl, h⟩
  have hbe : (t == s) = false := by simpa using hne
  clear hok hne EQ
  go_upto_region 6 with fail
  clear EG
  have d0 := a4.cell 0
  have d1 := a4.cell 1
  have d2 := a4.cell 2
  have d3 := a4.cell 3
  have d4 := a4.cell 4
  have d5 := a4.cell 5
  have d6 := a4.cell 6
  have d7 := a4.cell 7
  have d8 := a4.cell 8
  have f0 := a4.frozen 0
  have f1 := a4.frozen 1
  have f2 := a4.frozen 2
  have f3 := a4.frozen 3
  have f4 := a4.frozen 4
  have f5 := a4.frozen 5
  have f6 := a4.frozen 6
  have f7 := a4.frozen 7
  have f8 := a4.frozen 8
  simp at d0 d1 d2 d3 d4 d5 d6 d7 d8
  have a7 := (((((((((a4.set_ 0 (.int .i64 0)).set_ 1 (.int .i64 0)).set_ 2 (.int .i64 0)).set_ 3 (.int .i64 0)).set_ 4 (.bool false)).set_ 5 (.int .i64 0)).set_ 6 (.slice none 0 0)).set_ 7 (.slice none 0 0)).set_ 8 (.slice none 0 0))
  have e0 := a7.cell 0
  have e1 := a7.cell 1
  have e2 := a7.cell 2
  have e3 := a7.cell 3
  have e4 := a7.cell 4
  have e5 := a7.cell 5
  have e6 := a7.cell 6
  have e7 := a7.cell 7
  have e8 := a7.cell 8
  simp at e0 e1 e2 e3 e4 e5 e6 e7 e8
  have B7 : Below w.heap.size w (((((((((w4.setCell ⟨q, 0, none⟩ (.int .i64 0)).setCell ⟨q, 1, none⟩ (.int .i64 0)).setCell ⟨q, 2, none⟩ (.int .i64 0)).setCell ⟨q, 3, none⟩ (.int .i64 0)).setCell ⟨q, 4, none⟩ (.bool false)).setCell ⟨q, 5, none⟩ (.int .i64 0)).setCell ⟨q, 6, none⟩ (.slice none 0 0)).setCell ⟨q, 7, none⟩ (.slice none 0 0)).setCell ⟨q, 8, none⟩ (.slice none 0 0)) := (Bs (p := ⟨q, 8, none⟩) (u := .slice none 0 0) (Bs (p := ⟨q, 7, none⟩) (u := .slice none 0 0) (Bs (p := ⟨q, 6, none⟩) (u := .slice none 0 0) (Bs (p := ⟨q, 5, none⟩) (u := .int .i64 0) (Bs (p := ⟨q, 4, none⟩) (u := .bool false) (Bs (p := ⟨q, 3, none⟩) (u := .int .i64 0) (Bs (p := ⟨q, 2, none⟩) (u := .int .i64 0) (Bs (p := ⟨q, 1, none⟩) (u := .int .i64 0) (Bs (p := ⟨q, 0, none⟩) (u := .int .i64 0) B4 hwq) hwq) hwq) hwq) hwq) hwq) hwq) hwq) hwq)
  go_wp2_with fail
  generalize (((((((((w4.setCell ⟨q, 0, none⟩ (.int .i64 0)).setCell ⟨q, 1, none⟩ (.int .i64 0)).setCell ⟨q, 2, none⟩ (.int .i64 0)).setCell ⟨q, 3, none⟩ (.int .i64 0)).setCell ⟨q, 4, none⟩ (.bool false)).setCell ⟨q, 5, none⟩ (.int .i64 0)).setCell ⟨q, 6, none⟩ (.slice none 0 0)).setCell ⟨q, 7, none⟩ (.slice none 0 0)).setCell ⟨q, 8, none⟩ (.slice none 0 0)) = w7 at *
  have hqq := HQ.out
  refine bodyPost_ret (v := .tuple #[.agg #[.int .i64 0, .int .i64 0, .int .i64 0, .int .i64 0, .bool false, .int .i64 0, .slice none 0 0, .slice none 0 0, .slice none 0 0], .int .i64 1100]) (by simp [e0, e1, e2, e3, e4, e5, e6, e7, e8, results, Tryz.results8, go_sem]) rfl ⟨_, rec0, 1100, rfl, ?_, ?_, ?_, B7⟩
  · exact RVal.zero _ _ _
  · exact small_zero
  · exact HO.out
end Go.Proofs.YtmjliomgkcmjaaaGreat.RecW

/-
  The walks of SpoilInts, SpoilMap, SpoilFeatures, SpoilOps: what is written over, what stays (written by tools/gen/recspoil.py).
-/
namespace Go.Proofs.YtmjliomgkcmjaaaGreat.RecW
open Go.RowKit Shp IntW WideW CovW ShpW
set_option linter.all false

/-- Cells of which integers alone may have turned, into integers. -/
def Ic (cs cs' : Array Value) : Prop := cs'.size = cs.size ∧ ∀ i : Nat, cs'[i]? = cs[i]? ∨ ∃ n n' : Int, cs[i]? = some (.int .i64 n) ∧ cs'[i]? = some (.int .i64 n')
theorem Ic.refl (cs : Array Value) : Ic cs cs := ⟨rfl, fun _ => .inl rfl⟩
theorem Ic.trans {a b c : Array Value} (h : Ic a b) (k : Ic b c) : Ic a c := by
  refine ⟨k.1.trans h.1, fun i => ?_⟩
  rcases h.2 i with e | ⟨n, n', e1, e2⟩
  · rcases k.2 i with e' | ⟨m, m', e1', e2'⟩
    · exact .inl (e'.trans e)
    · exact .inr ⟨m, m', e ▸ e1', e2'⟩
  · rcases k.2 i with e' | ⟨m, m', e1', e2'⟩
    · exact .inr ⟨n, n', e1, e'.trans e2⟩
    · exact .inr ⟨n, m', e1, e2'⟩
theorem Ic.other {a b : Array Value} (h : Ic a b) {i : Nat} {u : Value} (e : a[i]? = some u) (hu : ∀ n : Int, u ≠ .int .i64 n) : b[i]? = some u := by
  rcases h.2 i with k | ⟨n, n', e1, -⟩
  · exact k.trans e
  · rw [e] at e1
    injection e1 with e1
    exact absurd e1 (hu n)
theorem Ic.int {a b : Array Value} (h : Ic a b) {i : Nat} {n : Int} (e : a[i]? = some (.int .i64 n)) : ∃ n', b[i]? = some (.int .i64 n') := by
  rcases h.2 i with k | ⟨-, n', -, e2⟩
  · exact ⟨n, k.trans e⟩
  · exact ⟨n', e2⟩
theorem Ic.set {a b : Array Value} (h : Ic a b) {i : Nat} {n m : Int} (e : b[i]? = some (.int .i64 n)) : Ic a (b.setIfInBounds i (.int .i64 m)) := by
  refine h.trans ⟨by simp, fun j => ?_⟩
  by_cases hj : j = i
  · subst hj
    refine .inr ⟨n, m, e, ?_⟩
    have := (Array.getElem?_eq_some_iff.1 e).1
    simp [this]
  · left
    rw [Array.getElem?_setIfInBounds_ne (by omega)]

/-- Only blocks that P holds of may have turned, and in them only integers, into integers. -/
structure Sp (P : Nat → Prop) (w w' : World) : Prop where
  os : w'.os = w.os
  tape : w'.tape = w.tape
  output : w'.output = w.output
  size : w.heap.size ≤ w'.heap.size
  far : ∀ k, k < w.heap.size → ¬ P k → w'.heap[k]? = w.heap[k]?
  near : ∀ (k : Nat) (cs : Array Value) (t : TypeId), w.heap[k]? = some (Obj.cells cs t (0, 0)) → ∃ cs', w'.heap[k]? = some (Obj.cells cs' t (0, 0)) ∧ Ic cs cs'
section
variable {P Q : Nat → Prop} {w w' w'' : World}
theorem Sp.of_below (h : Below w.heap.size w w') : Sp P w w' :=
  ⟨h.os, h.tape, h.output, h.size, fun k hk _ => h.block k hk, fun k cs t e => ⟨cs, (h.block k (Array.getElem?_eq_some_iff.1 e).1).trans e, Ic.refl _⟩⟩
theorem Sp.refl (P : Nat → Prop) (w : World) : Sp P w w := Sp.of_below B0
theorem Sp.trans (h : Sp P w w') (k : Sp P w' w'') : Sp P w w'' := by
  refine ⟨k.os.trans h.os, k.tape.trans h.tape, k.output.trans h.output, Nat.le_trans h.size k.size, fun i hi hp => (k.far i (Nat.lt_of_lt_of_le hi h.size) hp).trans (h.far i hi hp), fun i cs t e => ?_⟩
  obtain ⟨c1, e1, i1⟩ := h.near i cs t e
  obtain ⟨c2, e2, i2⟩ := k.near i c1 t e1
  exact ⟨c2, e2, i1.trans i2⟩
theorem Sp.imp (h : Sp P w w') (hq : ∀ k, k < w.heap.size → P k → Q k) : Sp Q w w' :=
  ⟨h.os, h.tape, h.output, h.size, fun k hk hn => h.far k hk (fun hp => hn (hq k hk hp)), h.near⟩
theorem Sp.drew (h : Sp P w w') : Sp P w w'.drew := ⟨h.os, h.tape, h.output, h.size, h.far, h.near⟩
theorem Sp.toBelow (h : Sp P w w') {B : Nat} (hP : ∀ k, P k → B ≤ k) (hB : B ≤ w.heap.size) : Below B w w' :=
  ⟨h.os, h.tape, h.output, h.size, fun k hk => h.far k (by omega) (fun hp => by have := hP k hp; omega)⟩
theorem Sp.blk (h : Sp P w w') {g : Nat} {t : TypeId} {cs : Array Value} (b : Blk w g t cs) : ∃ cs', Blk w' g t cs' ∧ Ic cs cs' := h.near g cs t b
theorem Sp.other (h : Sp P w w') {g i : Nat} {t : TypeId} {cs : Array Value} {u : Value} (b : Blk w g t cs) (e : cs[i]? = some u) (hu : ∀ n : Int, u ≠ .int .i64 n) : w'.cell? ⟨g, i, none⟩ = some u := by
  obtain ⟨cs', b', k⟩ := h.blk b
  rw [b'.cell]
  exact k.other e hu
theorem Sp.int (h : Sp P w w') {g i : Nat} {t : TypeId} {cs : Array Value} {n : Int} (b : Blk w g t cs) (e : cs[i]? = some (.int .i64 n)) : ∃ z, w'.cell? ⟨g, i, none⟩ = some (.int .i64 z) := by
  obtain ⟨cs', b', k⟩ := h.blk b
  rw [b'.cell]
  exact k.int e
theorem Sp.frozen (h : Sp P w w') {g : Nat} {t : TypeId} {cs : Array Value} (b : Blk w g t cs) (i : Nat) : w'.frozen? ⟨g, i, none⟩ = false := by
  obtain ⟨cs', b', k⟩ := h.blk b
  exact b'.frozen i
theorem Sp.set (h : Sp P w w') {g i : Nat} {t : TypeId} {cs : Array Value} {n : Int} (b : Blk w g t cs) (hp : P g) (e : cs[i]? = some (.int .i64 n)) (m : Int) : Sp P w (w'.setCell ⟨g, i, none⟩ (.int .i64 m)) := by
  obtain ⟨cs', b', k⟩ := h.blk b
  obtain ⟨n', e'⟩ := k.int e
  refine h.trans ⟨by simp [World.setCell], by simp [World.setCell], by simp [World.setCell], by simp [World.setCell], fun x hx hn => Below.heap_setCell w' _ _ x (by show x ≠ g; intro hc; exact hn (hc ▸ hp)), fun x cx tx ex => ?_⟩
  by_cases hx : x = g
  · subst hx
    have b2 := b'.set_ i (.int .i64 m)
    unfold Blk at b' b2
    rw [b'] at ex
    simp only [Option.some.injEq, Obj.cells.injEq, and_true] at ex
    obtain ⟨rfl, rfl⟩ := ex
    exact ⟨_, b2, (Ic.refl _).set e'⟩
  · exact ⟨cx, (Below.heap_setCell w' _ _ x hx).trans ex, Ic.refl _⟩
end

/-- A row whose block P holds of. -/
def OrP (w : World) (P : Nat → Prop) (t : TypeId) (size : Nat) (v : Value) (n : Nat) (xs : List Value) : Prop := w.ownsRow 0 t size v n xs ∧ ∀ k, v.ownBlock = some k → P k
def In (lo hi : Nat) (k : Nat) : Prop := lo ≤ k ∧ k < hi
theorem ORw.orp {w : World} {lo hi size n : Nat} {t : TypeId} {v : Value} {xs : List Value} (h : ORw w lo hi t size v n xs) : OrP w (In lo hi) t size v n xs :=
  ⟨(ORw.less h (Nat.zero_le _)).1, fun k hk => ⟨(World.ownsRow.lt h.1 k hk).1, h.2 k hk⟩⟩
theorem OrP.slice {w : World} {P : Nat → Prop} {t : TypeId} {size n : Nat} {v : Value} {xs : List Value} (h : OrP w P t size v n xs) : ∃ A c, v = .slice A n c := row_slice h.1
theorem OrP.blk {w : World} {P : Nat → Prop} {t : TypeId} {size n c : Nat} {A : Option Addr} {xs : List Value} (h : OrP w P t size (.slice A n c) n xs) (h0 : 0 < n) : ∃ g cur, A = some ⟨g, 0, none⟩ ∧ P g ∧ Blk w g t cur ∧ ∀ i, i < n * size → cur[i]? = xs[i]? := by
  rcases h.1.2 with ⟨-, e⟩ | ⟨g, cap, cur, e, -, hg, hn, -, hs, ht⟩
  · omega
  · injection e with e1 e2 e3
    refine ⟨g, cur, e1, h.2 g (by rw [e1]; rfl), hg, fun i hi => ?_⟩
    rw [← ht, List.getElem?_take_of_lt hi]
    simp
theorem OrP.le {w : World} {P : Nat → Prop} {t : TypeId} {size n : Nat} {v : Value} {xs : List Value} (h : OrP w P t size v n xs) : n ≤ 9223372036854775807 := by
  rcases h.1.2 with ⟨-, e⟩ | ⟨g, cap, cur, -, -, -, hn, hc, -⟩
  · omega
  · unfold maxLen at hc; omega
theorem OrP.imp {w : World} {P Q : Nat → Prop} {t : TypeId} {size n : Nat} {v : Value} {xs : List Value} (h : OrP w P t size v n xs) (hq : ∀ k, P k → Q k) : OrP w Q t size v n xs := ⟨h.1, fun k hk => hq k (h.2 k hk)⟩
/-- Behind writing over: the same row, integers turned. -/
theorem OrP.sp {w w' : World} {P Q : Nat → Prop} {t : TypeId} {size n : Nat} {v : Value} {xs : List Value} (h : OrP w P t size v n xs) (k : Sp Q w w') : ∃ xs', OrP w' P t size v n xs' ∧ Ic xs.toArray xs'.toArray := by
  rcases h.1.2 with ⟨rfl, rfl⟩ | ⟨g, cap, cur, rfl, h0, hg, hn, hc, hs, ht⟩
  · exact ⟨xs, ⟨⟨h.1.1, .inl ⟨rfl, rfl⟩⟩, h.2⟩, Ic.refl _⟩
  · obtain ⟨cs', e, i⟩ := k.near g cur t hg
    have hnc : n * size ≤ cap * size := Nat.mul_le_mul_right _ hn
    refine ⟨cs'.toList.take (n * size), ⟨⟨?_, .inr ⟨g, cap, cs', rfl, h0, e, hn, hc, by rw [i.1, hs], rfl⟩⟩, h.2⟩, ?_, fun j => ?_⟩
    · rw [List.length_take, Array.length_toList, i.1, hs]; omega
    · rw [← ht]
      simp only [List.size_toArray, List.length_take, Array.length_toList, i.1]
    · rw [← ht]
      by_cases hj : j < n * size
      · simp only [List.getElem?_toArray, List.getElem?_take_of_lt hj, Array.getElem?_toList]
        exact i.2 j
      · left
        simp only [List.getElem?_toArray]
        rw [List.getElem?_eq_none (by rw [List.length_take]; omega), List.getElem?_eq_none (by rw [List.length_take]; omega)]

def AllI (xs : List Value) : Prop := ∀ i, i < xs.length → ∃ z : Int, xs[i]? = some (.int .i64 z)
theorem AllI.sp {xs xs' : List Value} (h : AllI xs) (k : Ic xs.toArray xs'.toArray) : AllI xs' := by
  intro i hi
  have hl : xs'.length = xs.length := by simpa using k.1
  obtain ⟨z, e⟩ := h i (by omega)
  obtain ⟨z', e'⟩ := k.int (i := i) (n := z) (by simpa using e)
  exact ⟨z', by simpa using e'⟩
/-- Rows by their shape alone: integers, points, rings, features, operations. -/
def ISh (w : World) (P : Nat → Prop) (v : Value) : Prop := ∃ n xs, OrP w P 3 1 v n xs ∧ AllI xs
def PSh (w : World) (P : Nat → Prop) (v : Value) : Prop := ∃ n xs, OrP w P 74 2 v n xs ∧ AllI xs
def RSh (w : World) (P : Nat → Prop) (v : Value) : Prop := ∃ n us, OrP w P 75 1 v n us ∧ ∀ j, j < n → ∃ u, us[j]? = some u ∧ PSh w P u
def FSh (w : World) (P : Nat → Prop) (v : Value) : Prop := ∃ n us, OrP w P 49 3 v n us ∧ ∀ j, j < n → ∃ (a b : Int) (rv : Value), us[j * 3]? = some (.int .i64 a) ∧ us[j * 3 + 1]? = some (.int .i64 b) ∧ us[j * 3 + 2]? = some rv ∧ RSh w P rv
def OSh (w : World) (P : Nat → Prop) (v : Value) : Prop := ∃ n us, OrP w P 51 8 v n us ∧ ∀ j, j < n → ∃ (fid sh id ep : Int) (rv v1 v2 : Value),
  us[j * 8 + 1]? = some (.int .i64 fid) ∧ us[j * 8 + 2]? = some (.int .i64 sh) ∧ us[j * 8 + 3]? = some rv ∧ us[j * 8 + 4]? = some (.int .i64 id) ∧ us[j * 8 + 5]? = some (.int .i64 ep) ∧ us[j * 8 + 6]? = some v1 ∧ us[j * 8 + 7]? = some v2 ∧ RSh w P rv ∧ ISh w P v1 ∧ ISh w P v2
section
variable {w w' : World} {P Q : Nat → Prop} {v : Value}
theorem sl_ne {A : Option Addr} {n c : Nat} : ∀ z : Int, Value.slice A n c ≠ .int .i64 z := fun _ h => by cases h
theorem ISh.slice (h : ISh w P v) : ∃ A n c, v = .slice A n c := by obtain ⟨n, xs, h, -⟩ := h; obtain ⟨A, c, e⟩ := h.slice; exact ⟨A, n, c, e⟩
theorem PSh.slice (h : PSh w P v) : ∃ A n c, v = .slice A n c := by obtain ⟨n, xs, h, -⟩ := h; obtain ⟨A, c, e⟩ := h.slice; exact ⟨A, n, c, e⟩
theorem RSh.slice (h : RSh w P v) : ∃ A n c, v = .slice A n c := by obtain ⟨n, xs, h, -⟩ := h; obtain ⟨A, c, e⟩ := h.slice; exact ⟨A, n, c, e⟩
theorem ISh.imp (h : ISh w P v) (hq : ∀ k, P k → Q k) : ISh w Q v := by obtain ⟨n, xs, h, k⟩ := h; exact ⟨n, xs, h.imp hq, k⟩
theorem PSh.imp (h : PSh w P v) (hq : ∀ k, P k → Q k) : PSh w Q v := by obtain ⟨n, xs, h, k⟩ := h; exact ⟨n, xs, h.imp hq, k⟩
theorem RSh.imp (h : RSh w P v) (hq : ∀ k, P k → Q k) : RSh w Q v := by
  obtain ⟨n, us, h, k⟩ := h
  exact ⟨n, us, h.imp hq, fun j hj => by obtain ⟨u, e, p⟩ := k j hj; exact ⟨u, e, p.imp hq⟩⟩
theorem ISh.sp (h : ISh w P v) (k : Sp Q w w') : ISh w' P v := by
  obtain ⟨n, xs, h, a⟩ := h
  obtain ⟨xs', h', i⟩ := h.sp k
  exact ⟨n, xs', h', a.sp i⟩
theorem PSh.sp (h : PSh w P v) (k : Sp Q w w') : PSh w' P v := by
  obtain ⟨n, xs, h, a⟩ := h
  obtain ⟨xs', h', i⟩ := h.sp k
  exact ⟨n, xs', h', a.sp i⟩
theorem RSh.sp (h : RSh w P v) (k : Sp Q w w') : RSh w' P v := by
  obtain ⟨n, us, h, a⟩ := h
  obtain ⟨us', h', i⟩ := h.sp k
  refine ⟨n, us', h', fun j hj => ?_⟩
  obtain ⟨u, e, p⟩ := a j hj
  obtain ⟨A, m, c, rfl⟩ := p.slice
  exact ⟨_, by simpa using i.other (i := j) (u := .slice A m c) (by simpa using e) sl_ne, p.sp k⟩
/-- From rows that are told cell by cell. -/
theorem _root_.Go.Proofs.YtmjliomgkcmjaaaGreat.RecW.IRow.sh {lo hi : Nat} {l : List Int} (h : IRow w lo hi v l) : ISh w (In lo hi) v := by
  refine ⟨l.length, inCells l, ORw.orp h, fun i hi => ?_⟩
  have hl : i < l.length := by simpa [inCells] using hi
  exact ⟨l[i], by simp [inCells, hl]⟩
theorem PRow.sh {lo hi : Nat} {l : List P2} (h : PRow w lo hi v l) : PSh w (In lo hi) v := by
  refine ⟨l.length, ptc l, ORw.orp h, fun i hi => ?_⟩
  have hl : (ptc l).length = l.length * 2 := h.1.1
  have hj : i / 2 < l.length := by omega
  obtain ⟨c0, c1⟩ := ptc_at l (i / 2) hj
  rcases Nat.mod_two_eq_zero_or_one i with e | e
  · rw [show i / 2 * 2 = i by omega] at c0; exact ⟨_, c0⟩
  · rw [show i / 2 * 2 + 1 = i by omega] at c1; exact ⟨_, c1⟩
theorem RRow.sh {lo hi : Nat} {l : List (List P2)} (h : RRow w lo hi v l) : RSh w (In lo hi) v := by
  obtain ⟨us, h1, h2⟩ := h
  exact ⟨l.length, us, ORw.orp h1, fun j hj => by obtain ⟨u, e, p⟩ := h2 j hj; exact ⟨u, e, p.sh⟩⟩
theorem ORow.sh {lo hi : Nat} {l : List OpV} (h : ORow w lo hi v l) : OSh w (In lo hi) v := by
  obtain ⟨us, h1, h2⟩ := h
  refine ⟨l.length, us, ORw.orp h1, fun j hj => ?_⟩
  obtain ⟨rv, v1, v2, ⟨-, c1, c2, c3, c4, c5, c6, c7⟩, r1, r2, r3⟩ := h2 j hj
  exact ⟨_, _, _, _, rv, v1, v2, c1, c2, c3, c4, c5, c6, c7, r1.sh, r2.sh, r3.sh⟩
end

set_option maxHeartbeats 2000000 in
theorem spI_any (v : Value) (P : Nat → Prop) (w : World) (h : ISh w P v) :
    Calls Tryz.prog 33 #[v] w fun x w' => x = .returned (.tuple #[]) ∧ Sp P w w' := by
  obtain ⟨n, xs, h, ha⟩ := h
  obtain ⟨A, c, rfl⟩ := h.slice
  have hlx : xs.length = n := by simpa using h.1.1
  have hle := h.le
  have H := Lib.hid (And.intro h (And.intro ha hlx))
  clear h ha hlx
  go_enter Tryz.func33, Tryz.ntmps33
  go_wp2_with fail
  go_loopw [2] (fun i W => ∃ k : Nat, k ≤ n ∧ i = .int .i64 k ∧ Sp P w W) (fun i _ => n - (intOf i).toNat)
  case atStart => exact ⟨0, Nat.zero_le _, rfl, Sp.refl _ _⟩
  case round =>
    obtain ⟨k, hk, rfl, hS⟩ := hrel
    by_cases hkn : k < n
    case pos =>
      obtain ⟨h, ha, hlx⟩ := H.out
      obtain ⟨g, cur, rfl, hp, hb, hx⟩ := h.blk (by omega)
      obtain ⟨z, e⟩ := ha k (by omega)
      have e' := (hx k (by omega)).trans e
      obtain ⟨x, c0⟩ := hS.int hb e'
      have f0 := hS.frozen hb k
      have SS := fun y => Lib.hid (hS.set hb hp e' y)
      clear h ha hlx hb hx e e' hS H
      have g1 : (k : Int) < n := by omega
      go_wp2_with fail
      exact ⟨⟨k + 1, by omega, by simp only [Int.natCast_add, Int.cast_ofNat_Int], (SS _).out⟩, by simp [intOf]; omega⟩
    case neg =>
      obtain rfl : k = n := by omega
      clear H
      go_wp2_with fail
      exact bodyPost_end (v := .tuple #[]) (by simp [results, Tryz.results33, go_sem]) rfl ⟨rfl, hS⟩

set_option maxHeartbeats 1000000 in
theorem spM_any (e : Int) (v v' : Value) (P : Nat → Prop) (w : World) (h : ISh w P v) (h' : ISh w P v') :
    Calls Tryz.prog 13 #[.agg #[.int .i64 e, v, v']] w fun x w' => x = .returned (.tuple #[]) ∧ Sp P w w' := by
  obtain ⟨A1, n1, c1, rfl⟩ := h.slice
  obtain ⟨A2, n2, c2, rfl⟩ := h'.slice
  have S1 : Sp P w (w.alloc (.cells #[.int .i64 e, .slice A1 n1 c1, .slice A2 n2 c2] 26)) := Sp.of_below (Ba B0)
  have b1 := Blk.new w 26 #[.int .i64 e, .slice A1 n1 c1, .slice A2 n2 c2]
  have H1 := h.sp S1
  have H2 := h'.sp S1
  obtain ⟨g, hg⟩ : ∃ g, w.heap.size = g := ⟨_, rfl⟩
  rw [hg] at b1
  have HG := Lib.hid hg
  go_enter Tryz.func13, Tryz.ntmps13
  go_wp2_with fail
  try rw [hg]
  clear hg
  generalize w.alloc (.cells #[.int .i64 e, .slice A1 n1 c1, .slice A2 n2 c2] 26) = w1 at *
  have d1 := b1.cell 1
  have d2 := b1.cell 2
  simp at d1 d2
  go_wp2_with fail
  refine (spI_any _ P w1 H1).mono ?_
  rintro _ wA ⟨rfl, hA⟩
  have d2A := hA.other b1 (i := 2) rfl sl_ne
  go_wp2_with fail
  refine (spI_any _ P wA (H2.sp hA)).mono ?_
  rintro _ wB ⟨rfl, hB⟩
  go_wp2_with fail
  exact bodyPost_end (v := .tuple #[]) (by simp [results, Tryz.results13, go_sem]) rfl ⟨rfl, (S1.trans hA).trans hB⟩

end Go.Proofs.YtmjliomgkcmjaaaGreat.RecW
