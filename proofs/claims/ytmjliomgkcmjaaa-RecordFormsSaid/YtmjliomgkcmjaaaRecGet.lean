/-
  The walk of the program's own Get (written by tools/gen/recget.py).
-/
import Derived.Test.YtmjliomgkcmjaaaRecPut
namespace Go.Proofs.Ytmjliomgkcmjaaa.RecW
open Go.RowKit Shp IntW WideW CovW ShpW
set_option linter.all false

theorem RVal.read {w : World} {lo hi : Nat} {v : Value} {r : RecV} (h : RVal w lo hi v r) (hs : SmallR r) : RdRec w hi v r := by
  obtain ⟨v1, v2, vo, e, h1, h2, h3⟩ := h
  exact ⟨v1, v2, vo, e, h1.read (by have := hs.1.1; omega), h2.read (by have := hs.1.2; omega), h3.read ⟨by have := hs.2.1; omega, fun o ho => (hs.2.2 o ho).few⟩⟩
theorem RVal.kept {w w' : World} {lo hi : Nat} {v : Value} {r : RecV} (h : RVal w lo hi v r) (k : Kt opAll lo hi w w') : RVal w' lo hi v r := by
  obtain ⟨v1, v2, vo, e, h1, h2, h3⟩ := h
  exact ⟨v1, v2, vo, e, h1.kept k (by simp [opAll]), h2.kept k (by simp [opAll]), h3.kept k⟩
theorem RVal.more {w : World} {lo hi hi' : Nat} {v : Value} {r : RecV} (h : RVal w lo hi v r) (k : hi ≤ hi') : RVal w lo hi' v r := by
  obtain ⟨v1, v2, vo, e, h1, h2, h3⟩ := h
  exact ⟨v1, v2, vo, e, h1.more k, h2.more k, h3.more k⟩
theorem RVal.less {w : World} {lo lo' hi : Nat} {v : Value} {r : RecV} (h : RVal w lo hi v r) (k : lo' ≤ lo) : RVal w lo' hi v r := by
  obtain ⟨v1, v2, vo, e, h1, h2, h3⟩ := h
  exact ⟨v1, v2, vo, e, h1.less k, h2.less k, h3.less k⟩
theorem RVal.zero (w : World) (lo hi : Nat) : RVal w lo hi (.agg #[.int .i64 0, .int .i64 0, .int .i64 0, .int .i64 0, .bool false, .int .i64 0, .slice none 0 0, .slice none 0 0, .slice none 0 0]) rec0 := ⟨_, _, _, rfl, IRow.nil _ _ _, IRow.nil _ _ _, ORow.nil _ _ _⟩
theorem small_zero : SmallR rec0 := ⟨by simp [rec0], by simp [rec0]⟩
/-- What Get answers. -/
def GetOut (s : Byts) (r : RecV) (e : Int) : Prop := (RMay r ∧ putRec r = s ∧ s.length ≤ 8192 ∧ e = 0) ∨ ((¬ ∃ x, RMay x ∧ putRec x = s ∧ s.length ≤ 8192) ∧ r = rec0 ∧ e = 1100)
theorem put_inj {x y : RecV} (hx : RMay x) (hy : RMay y) (h : putRec x = putRec y) : x = y := by
  have h1 := gRec_put x hx
  have h2 := gRec_put y hy
  rw [h, h2] at h1
  simp only [Option.some.injEq, Prod.mk.injEq] at h1
  exact h1.1.symm
theorem getOut_uniq {s : Byts} {x y : RecV} {e f : Int} (h : GetOut s x e) (k : GetOut s y f) : x = y ∧ e = f := by
  rcases h with ⟨h1, h2, h3, rfl⟩ | ⟨h1, rfl, rfl⟩ <;> rcases k with ⟨k1, k2, k3, rfl⟩ | ⟨k1, rfl, rfl⟩
  · exact ⟨put_inj h1 k1 (h2.trans k2.symm), rfl⟩
  · exact absurd ⟨x, h1, h2, h3⟩ k1
  · exact absurd ⟨y, k1, k2, k3⟩ h1
  · exact ⟨rfl, rfl⟩
theorem getOut_is (s : Byts) : ∃ r e, GetOut s r e := by
  by_cases h : ∃ x, RMay x ∧ putRec x = s ∧ s.length ≤ 8192
  · obtain ⟨x, h1, h2, h3⟩ := h
    exact ⟨x, 0, .inl ⟨h1, h2, h3, rfl⟩⟩
  · exact ⟨_, _, .inr ⟨h, rfl, rfl⟩⟩
theorem getOut_of {s s' t : Byts} {r : RecV} {e : Int} (hg : Got gRec s r s') (hl : s.length ≤ 8192) (hp : PutOut r t e) : if e = 0 ∧ t = s then GetOut s r 0 else GetOut s rec0 1100 := by
  split
  · rename_i h
    obtain ⟨rfl, rfl⟩ := h
    rcases hp with ⟨h1, h2, h3, -⟩ | h
    · exact .inl ⟨h1, h3.symm, hl, rfl⟩
    · exact absurd h.2.2 (by simp)
  · rename_i h
    refine .inr ⟨?_, rfl, rfl⟩
    rintro ⟨x, h1, h2, h3⟩
    have h4 := gRec_put x h1
    rw [h2] at h4
    obtain ⟨rfl, -⟩ := hg.val h4
    rcases hp with ⟨-, -, k3, k4⟩ | k
    · exact h ⟨k4, k3.trans h2⟩
    · exact k.1 ⟨h1, by rw [h2]; exact h3⟩

theorem ne_yes (a b : Byts) (h : ¬ a = b) (w : World) : (binOp .neq 9 (strV a) (strV b)).run Try.prog w = .ok (.bool true) w := by
  rw [ne_str]
  simp [h]
set_option maxRecDepth 100000 in
set_option maxHeartbeats 2000000 in
theorem get_any (s : Byts) (w : World) (hs : s.length ≤ 100000 ∨ 8192 < s.length) :
    Calls Try.prog 8 #[strV s] w fun y w' => ∃ (v : Value) (r : RecV) (e : Int), y = .returned (.tuple #[v, .int .i64 e]) ∧ RVal w' w.heap.size w'.heap.size v r ∧ SmallR r ∧ GetOut s r e ∧ Below w.heap.size w w' := by
  obtain ⟨q, hq⟩ : ∃ q, w.heap.size = q := ⟨_, rfl⟩
  have a1 := Blk.new' w 38 #[.int .i64 0, .int .i64 0, .int .i64 0, .int .i64 0, .bool false, .int .i64 0, .slice none 0 0, .slice none 0 0, .slice none 0 0] hq.symm
  have B1 : Below w.heap.size w (w.alloc (.cells #[.int .i64 0, .int .i64 0, .int .i64 0, .int .i64 0, .bool false, .int .i64 0, .slice none 0 0, .slice none 0 0, .slice none 0 0] 38)) := Ba B0
  have ls1 : (w.alloc (.cells #[.int .i64 0, .int .i64 0, .int .i64 0, .int .i64 0, .bool false, .int .i64 0, .slice none 0 0, .slice none 0 0, .slice none 0 0] 38)).heap.size = q + 1 := by rw [alloc_size, hq]
  have HQ := Lib.hid hq
  have hwq : w.heap.size ≤ q := by omega
  by_cases hl : s.length ≤ 8192
  case neg =>
    have HNO : Hid (GetOut s rec0 1100) := Lib.hid (.inr ⟨fun ⟨x, h1, h2, h3⟩ => hl h3, rfl, rfl⟩)
    have hd : decide ((8192 : Int) < (s.length : Int)) = true := decide_eq_true (by omega)
    clear hl hs
    unfold strV
    go_enter Try.func8, Try.ntmps8
    go_upto_region 1 with fail
    generalize w.alloc (.cells #[.int .i64 0, .int .i64 0, .int .i64 0, .int .i64 0, .bool false, .int .i64 0, .slice none 0 0, .slice none 0 0, .slice none 0 0] 38) = w1 at *
    clear hq
    have d0 := a1.cell 0
    have d1 := a1.cell 1
    have d2 := a1.cell 2
    have d3 := a1.cell 3
    have d4 := a1.cell 4
    have d5 := a1.cell 5
    have d6 := a1.cell 6
    have d7 := a1.cell 7
    have d8 := a1.cell 8
    have f0 := a1.frozen 0
    have f1 := a1.frozen 1
    have f2 := a1.frozen 2
    have f3 := a1.frozen 3
    have f4 := a1.frozen 4
    have f5 := a1.frozen 5
    have f6 := a1.frozen 6
    have f7 := a1.frozen 7
    have f8 := a1.frozen 8
    simp at d0 d1 d2 d3 d4 d5 d6 d7 d8
    have a7 := (((((((((a1.set_ 0 (.int .i64 0)).set_ 1 (.int .i64 0)).set_ 2 (.int .i64 0)).set_ 3 (.int .i64 0)).set_ 4 (.bool false)).set_ 5 (.int .i64 0)).set_ 6 (.slice none 0 0)).set_ 7 (.slice none 0 0)).set_ 8 (.slice none 0 0))
    have e0 := a7.cell 0
    have e1 := a7.cell 1
    have e2 := a7.cell 2
    have e3 := a7.cell 3
    have e4 := a7.cell 4
    have e5 := a7.cell 5
    have e6 := a7.cell 6
    have e7 := a7.cell 7
    have e8 := a7.cell 8
    simp at e0 e1 e2 e3 e4 e5 e6 e7 e8
    have B7 : Below w.heap.size w (((((((((w1.setCell ⟨q, 0, none⟩ (.int .i64 0)).setCell ⟨q, 1, none⟩ (.int .i64 0)).setCell ⟨q, 2, none⟩ (.int .i64 0)).setCell ⟨q, 3, none⟩ (.int .i64 0)).setCell ⟨q, 4, none⟩ (.bool false)).setCell ⟨q, 5, none⟩ (.int .i64 0)).setCell ⟨q, 6, none⟩ (.slice none 0 0)).setCell ⟨q, 7, none⟩ (.slice none 0 0)).setCell ⟨q, 8, none⟩ (.slice none 0 0)) := (Bs (p := ⟨q, 8, none⟩) (u := .slice none 0 0) (Bs (p := ⟨q, 7, none⟩) (u := .slice none 0 0) (Bs (p := ⟨q, 6, none⟩) (u := .slice none 0 0) (Bs (p := ⟨q, 5, none⟩) (u := .int .i64 0) (Bs (p := ⟨q, 4, none⟩) (u := .bool false) (Bs (p := ⟨q, 3, none⟩) (u := .int .i64 0) (Bs (p := ⟨q, 2, none⟩) (u := .int .i64 0) (Bs (p := ⟨q, 1, none⟩) (u := .int .i64 0) (Bs (p := ⟨q, 0, none⟩) (u := .int .i64 0) B1 hwq) hwq) hwq) hwq) hwq) hwq) hwq) hwq) hwq)
    go_wp2_with fail
    generalize (((((((((w1.setCell ⟨q, 0, none⟩ (.int .i64 0)).setCell ⟨q, 1, none⟩ (.int .i64 0)).setCell ⟨q, 2, none⟩ (.int .i64 0)).setCell ⟨q, 3, none⟩ (.int .i64 0)).setCell ⟨q, 4, none⟩ (.bool false)).setCell ⟨q, 5, none⟩ (.int .i64 0)).setCell ⟨q, 6, none⟩ (.slice none 0 0)).setCell ⟨q, 7, none⟩ (.slice none 0 0)).setCell ⟨q, 8, none⟩ (.slice none 0 0)) = w7 at *
    have hqq := HQ.out
    refine bodyPost_ret (v := .tuple #[.agg #[.int .i64 0, .int .i64 0, .int .i64 0, .int .i64 0, .bool false, .int .i64 0, .slice none 0 0, .slice none 0 0, .slice none 0 0], .int .i64 1100]) (by simp [e0, e1, e2, e3, e4, e5, e6, e7, e8, results, Try.results8, go_sem]) rfl ⟨_, rec0, 1100, rfl, ?_, ?_, ?_, B7⟩
    · exact RVal.zero _ _ _
    · exact small_zero
    · exact HNO.out
  have hs' : s.length ≤ 100000 := by omega
  have hd : decide ((8192 : Int) < (s.length : Int)) = false := decide_eq_false (by omega)
  have HL := Lib.hid hl
  have RD := read_any s (w.alloc (.cells #[.int .i64 0, .int .i64 0, .int .i64 0, .int .i64 0, .bool false, .int .i64 0, .slice none 0 0, .slice none 0 0, .slice none 0 0] 38)) hs'
  rw [ls1] at RD
  unfold strV at RD
  clear hl hs
  unfold strV
  go_enter Try.func8, Try.ntmps8
  go_upto_region 1 with fail
  generalize w.alloc (.cells #[.int .i64 0, .int .i64 0, .int .i64 0, .int .i64 0, .bool false, .int .i64 0, .slice none 0 0, .slice none 0 0, .slice none 0 0] 38) = w1 at *
  clear hq
  go_wp2_with fail
  refine RD.mono ?_
  rintro _ w2 ⟨_, r, s', rfl, ⟨v1, v2, vo, rfl, h1, h2, h3⟩, hsm, hb, hg⟩
  clear RD
  obtain ⟨A1, c1, e1⟩ := row_slice h1.1
  obtain ⟨A2, c2, e2⟩ := row_slice h2.1
  obtain ⟨A3, c3, e3⟩ : ∃ A c, vo = .slice A r.ops.length c := by obtain ⟨us, h, -⟩ := h3; exact row_slice h.1
  subst e1 e2 e3
  have HG := Lib.hid hg
  have HS := Lib.hid hsm
  have HV : Hid (RVal w2 (q + 1) w2.heap.size (.agg #[.int .i64 r.kind, .int .i64 r.node, .int .i64 r.sq, .int .i64 r.base, .bool r.commit, .int .i64 r.ep, .slice A1 r.ss.length c1, .slice A2 r.os.length c2, .slice A3 r.ops.length c3]) r) := Lib.hid ⟨_, _, _, rfl, h1, h2, h3⟩
  clear h1 h2 h3 hg hsm
  obtain ⟨kind, hk⟩ : ∃ z, r.kind = z := ⟨_, rfl⟩
  obtain ⟨node, hk1⟩ : ∃ z, r.node = z := ⟨_, rfl⟩
  obtain ⟨sq, hk2⟩ : ∃ z, r.sq = z := ⟨_, rfl⟩
  obtain ⟨base, hk3⟩ : ∃ z, r.base = z := ⟨_, rfl⟩
  obtain ⟨commit, hk4⟩ : ∃ z, r.commit = z := ⟨_, rfl⟩
  obtain ⟨ep, hk5⟩ : ∃ z, r.ep = z := ⟨_, rfl⟩
  obtain ⟨n1, hk6⟩ : ∃ z, r.ss.length = z := ⟨_, rfl⟩
  obtain ⟨n2, hk7⟩ : ∃ z, r.os.length = z := ⟨_, rfl⟩
  obtain ⟨n3, hk8⟩ : ∃ z, r.ops.length = z := ⟨_, rfl⟩
  rw [hk, hk1, hk2, hk3, hk4, hk5, hk6, hk7, hk8] at HV ⊢
  clear hk hk1 hk2 hk3 hk4 hk5 hk6 hk7 hk8
  have b3 := Blk.new w2 38 #[.int .i64 kind, .int .i64 node, .int .i64 sq, .int .i64 base, .bool commit, .int .i64 ep, .slice A1 n1 c1, .slice A2 n2 c2, .slice A3 n3 c3]
  obtain ⟨g, hgg⟩ : ∃ g, w2.heap.size = g := ⟨_, rfl⟩
  have hqg : q < g := by have := hb.size; omega
  have a2 := a1.keep (hb.mono (by omega))
  have a3 := a2.alloc (.cells #[.int .i64 kind, .int .i64 node, .int .i64 sq, .int .i64 base, .bool commit, .int .i64 ep, .slice A1 n1 c1, .slice A2 n2 c2, .slice A3 n3 c3] 38)
  have HV3 : Hid (RVal (w2.alloc (.cells #[.int .i64 kind, .int .i64 node, .int .i64 sq, .int .i64 base, .bool commit, .int .i64 ep, .slice A1 n1 c1, .slice A2 n2 c2, .slice A3 n3 c3] 38)) (q + 1) g (.agg #[.int .i64 kind, .int .i64 node, .int .i64 sq, .int .i64 base, .bool commit, .int .i64 ep, .slice A1 n1 c1, .slice A2 n2 c2, .slice A3 n3 c3]) r) := Lib.hid (hgg ▸ HV.out.kept (Kt.of_below (Ba B0) _ (Nat.le_refl _)))
  have B3 : Below w.heap.size w (w2.alloc (.cells #[.int .i64 kind, .int .i64 node, .int .i64 sq, .int .i64 base, .bool commit, .int .i64 ep, .slice A1 n1 c1, .slice A2 n2 c2, .slice A3 n3 c3] 38)) := Ba (B1.trans (hb.mono (by omega)))
  have ls3 : (w2.alloc (.cells #[.int .i64 kind, .int .i64 node, .int .i64 sq, .int .i64 base, .bool commit, .int .i64 ep, .slice A1 n1 c1, .slice A2 n2 c2, .slice A3 n3 c3] 38)).heap.size = g + 1 := by rw [alloc_size, hgg]
  rw [hgg] at b3
  obtain ⟨t, e, hp⟩ := putOut_is r
  have HP := Lib.hid (getOut_of HG.out HL.out hp)
  go_upto_region 4 with fail
  generalize w2.alloc (.cells #[.int .i64 kind, .int .i64 node, .int .i64 sq, .int .i64 base, .bool commit, .int .i64 ep, .slice A1 n1 c1, .slice A2 n2 c2, .slice A3 n3 c3] 38) = w3 at *
  have PT := put_any (.agg #[.int .i64 kind, .int .i64 node, .int .i64 sq, .int .i64 base, .bool commit, .int .i64 ep, .slice A1 n1 c1, .slice A2 n2 c2, .slice A3 n3 c3]) r t e w3 (by rw [ls3]; obtain ⟨y1, y2, y3, k, k1, k2, k3⟩ := HV3.out.read HS.out; exact ⟨y1, y2, y3, k, k1.more (by omega), k2.more (by omega), k3.more (by omega)⟩) hp
  have HPP := Lib.hid hp
  clear hp hb
  have d0 := b3.cell 0
  have d1 := b3.cell 1
  have d2 := b3.cell 2
  have d3 := b3.cell 3
  have d4 := b3.cell 4
  have d5 := b3.cell 5
  have d6 := b3.cell 6
  have d7 := b3.cell 7
  have d8 := b3.cell 8
  simp at d0 d1 d2 d3 d4 d5 d6 d7 d8
  unfold strV at PT
  go_wp2_with fail
  refine PT.mono ?_
  rintro _ w4 ⟨rfl, hb4⟩
  clear PT d0 d1 d2 d3 d4 d5 d6 d7 d8
  have b4 := b3.keep hb4
  have a4 := a3.keep hb4
  have B4 := Bt B3 hb4
  have HV4 : Hid (RVal w4 (q + 1) g (.agg #[.int .i64 kind, .int .i64 node, .int .i64 sq, .int .i64 base, .bool commit, .int .i64 ep, .slice A1 n1 c1, .slice A2 n2 c2, .slice A3 n3 c3]) r) := Lib.hid (HV3.out.kept (Kt.of_below hb4 _ (by omega)))
  have ls4 : g + 1 ≤ w4.heap.size := by have := hb4.size; omega
  have EQ := fun w => ne_str t s w
  have EG := fun x y w => ne_guard x y t s w
  unfold strV at EQ EG
  clear hb4 b3 a3 B3 a1 a2 ls3 ls1 B1
  by_cases hok : e = 0 ∧ t = s
  case pos =>
    obtain ⟨rfl, rfl⟩ := hok
    have ho := HP.out
    rw [if_pos ⟨rfl, rfl⟩] at ho
    have HO := Lib.hid ho
    clear ho HP
    simp only [decide_true, Bool.not_true] at EQ
    go_upto_region 7 with fail
    clear EQ EG
    have u0 := b4.cell 0
    have u1 := b4.cell 1
    have u2 := b4.cell 2
    have u3 := b4.cell 3
    have u4 := b4.cell 4
    have u5 := b4.cell 5
    have u6 := b4.cell 6
    have u7 := b4.cell 7
    have u8 := b4.cell 8
    simp at u0 u1 u2 u3 u4 u5 u6 u7 u8
    have d0 := a4.cell 0
    have d1 := a4.cell 1
    have d2 := a4.cell 2
    have d3 := a4.cell 3
    have d4 := a4.cell 4
    have d5 := a4.cell 5
    have d6 := a4.cell 6
    have d7 := a4.cell 7
    have d8 := a4.cell 8
    have f0 := a4.frozen 0
    have f1 := a4.frozen 1
    have f2 := a4.frozen 2
    have f3 := a4.frozen 3
    have f4 := a4.frozen 4
    have f5 := a4.frozen 5
    have f6 := a4.frozen 6
    have f7 := a4.frozen 7
    have f8 := a4.frozen 8
    simp at d0 d1 d2 d3 d4 d5 d6 d7 d8
    have a7 := (((((((((a4.set_ 0 (.int .i64 kind)).set_ 1 (.int .i64 node)).set_ 2 (.int .i64 sq)).set_ 3 (.int .i64 base)).set_ 4 (.bool commit)).set_ 5 (.int .i64 ep)).set_ 6 (.slice A1 n1 c1)).set_ 7 (.slice A2 n2 c2)).set_ 8 (.slice A3 n3 c3))
    have e0 := a7.cell 0
    have e1 := a7.cell 1
    have e2 := a7.cell 2
    have e3 := a7.cell 3
    have e4 := a7.cell 4
    have e5 := a7.cell 5
    have e6 := a7.cell 6
    have e7 := a7.cell 7
    have e8 := a7.cell 8
    simp at e0 e1 e2 e3 e4 e5 e6 e7 e8
    have B7 : Below w.heap.size w (((((((((w4.setCell ⟨q, 0, none⟩ (.int .i64 kind)).setCell ⟨q, 1, none⟩ (.int .i64 node)).setCell ⟨q, 2, none⟩ (.int .i64 sq)).setCell ⟨q, 3, none⟩ (.int .i64 base)).setCell ⟨q, 4, none⟩ (.bool commit)).setCell ⟨q, 5, none⟩ (.int .i64 ep)).setCell ⟨q, 6, none⟩ (.slice A1 n1 c1)).setCell ⟨q, 7, none⟩ (.slice A2 n2 c2)).setCell ⟨q, 8, none⟩ (.slice A3 n3 c3)) := (Bs (p := ⟨q, 8, none⟩) (u := .slice A3 n3 c3) (Bs (p := ⟨q, 7, none⟩) (u := .slice A2 n2 c2) (Bs (p := ⟨q, 6, none⟩) (u := .slice A1 n1 c1) (Bs (p := ⟨q, 5, none⟩) (u := .int .i64 ep) (Bs (p := ⟨q, 4, none⟩) (u := .bool commit) (Bs (p := ⟨q, 3, none⟩) (u := .int .i64 base) (Bs (p := ⟨q, 2, none⟩) (u := .int .i64 sq) (Bs (p := ⟨q, 1, none⟩) (u := .int .i64 node) (Bs (p := ⟨q, 0, none⟩) (u := .int .i64 kind) B4 hwq) hwq) hwq) hwq) hwq) hwq) hwq) hwq) hwq)
    have KT : Kt opAll (q + 1) g w4 (((((((((w4.setCell ⟨q, 0, none⟩ (.int .i64 kind)).setCell ⟨q, 1, none⟩ (.int .i64 node)).setCell ⟨q, 2, none⟩ (.int .i64 sq)).setCell ⟨q, 3, none⟩ (.int .i64 base)).setCell ⟨q, 4, none⟩ (.bool commit)).setCell ⟨q, 5, none⟩ (.int .i64 ep)).setCell ⟨q, 6, none⟩ (.slice A1 n1 c1)).setCell ⟨q, 7, none⟩ (.slice A2 n2 c2)).setCell ⟨q, 8, none⟩ (.slice A3 n3 c3)) :=
      fun i cs t z1 z2 z3 z4 => ((Below.heap_setCell _ _ _ i (by show i ≠ q; omega)).trans ((Below.heap_setCell _ _ _ i (by show i ≠ q; omega)).trans ((Below.heap_setCell _ _ _ i (by show i ≠ q; omega)).trans ((Below.heap_setCell _ _ _ i (by show i ≠ q; omega)).trans ((Below.heap_setCell _ _ _ i (by show i ≠ q; omega)).trans ((Below.heap_setCell _ _ _ i (by show i ≠ q; omega)).trans ((Below.heap_setCell _ _ _ i (by show i ≠ q; omega)).trans ((Below.heap_setCell _ _ _ i (by show i ≠ q; omega)).trans ((Below.heap_setCell _ _ _ i (by show i ≠ q; omega)).trans z4)))))))))
    have s7 : (((((((((w4.setCell ⟨q, 0, none⟩ (.int .i64 kind)).setCell ⟨q, 1, none⟩ (.int .i64 node)).setCell ⟨q, 2, none⟩ (.int .i64 sq)).setCell ⟨q, 3, none⟩ (.int .i64 base)).setCell ⟨q, 4, none⟩ (.bool commit)).setCell ⟨q, 5, none⟩ (.int .i64 ep)).setCell ⟨q, 6, none⟩ (.slice A1 n1 c1)).setCell ⟨q, 7, none⟩ (.slice A2 n2 c2)).setCell ⟨q, 8, none⟩ (.slice A3 n3 c3)).heap.size = w4.heap.size := by simp [World.setCell]
    go_wp2_with fail
    generalize (((((((((w4.setCell ⟨q, 0, none⟩ (.int .i64 kind)).setCell ⟨q, 1, none⟩ (.int .i64 node)).setCell ⟨q, 2, none⟩ (.int .i64 sq)).setCell ⟨q, 3, none⟩ (.int .i64 base)).setCell ⟨q, 4, none⟩ (.bool commit)).setCell ⟨q, 5, none⟩ (.int .i64 ep)).setCell ⟨q, 6, none⟩ (.slice A1 n1 c1)).setCell ⟨q, 7, none⟩ (.slice A2 n2 c2)).setCell ⟨q, 8, none⟩ (.slice A3 n3 c3)) = w7 at *
    have hqq := HQ.out
    refine bodyPost_ret (v := .tuple #[.agg #[.int .i64 kind, .int .i64 node, .int .i64 sq, .int .i64 base, .bool commit, .int .i64 ep, .slice A1 n1 c1, .slice A2 n2 c2, .slice A3 n3 c3], .int .i64 0]) (by simp [e0, e1, e2, e3, e4, e5, e6, e7, e8, results, Try.results8, go_sem]) rfl ⟨_, r, 0, rfl, ?_, ?_, ?_, B7⟩
    · rw [s7]
      exact ((HV4.out.kept KT).less (by omega)).more (by omega)
    · exact HS.out
    · exact HO.out
  have ho := HP.out
  rw [if_neg hok] at ho
  have HO := Lib.hid ho
  clear ho HP
  by_cases he : e = 0
  case neg =>
    have ez : (e != 0) = true := by simpa using he
    clear hok he
    go_upto_region 6 with fail
    clear EQ EG
    have d0 := a4.cell 0
    have d1 := a4.cell 1
    have d2 := a4.cell 2
    have d3 := a4.cell 3
    have d4 := a4.cell 4
    have d5 := a4.cell 5
    have d6 := a4.cell 6
    have d7 := a4.cell 7
    have d8 := a4.cell 8
    have f0 := a4.frozen 0
    have f1 := a4.frozen 1
    have f2 := a4.frozen 2
    have f3 := a4.frozen 3
    have f4 := a4.frozen 4
    have f5 := a4.frozen 5
    have f6 := a4.frozen 6
    have f7 := a4.frozen 7
    have f8 := a4.frozen 8
    simp at d0 d1 d2 d3 d4 d5 d6 d7 d8
    have a7 := (((((((((a4.set_ 0 (.int .i64 0)).set_ 1 (.int .i64 0)).set_ 2 (.int .i64 0)).set_ 3 (.int .i64 0)).set_ 4 (.bool false)).set_ 5 (.int .i64 0)).set_ 6 (.slice none 0 0)).set_ 7 (.slice none 0 0)).set_ 8 (.slice none 0 0))
    have e0 := a7.cell 0
    have e1 := a7.cell 1
    have e2 := a7.cell 2
    have e3 := a7.cell 3
    have e4 := a7.cell 4
    have e5 := a7.cell 5
    have e6 := a7.cell 6
    have e7 := a7.cell 7
    have e8 := a7.cell 8
    simp at e0 e1 e2 e3 e4 e5 e6 e7 e8
    have B7 : Below w.heap.size w (((((((((w4.setCell ⟨q, 0, none⟩ (.int .i64 0)).setCell ⟨q, 1, none⟩ (.int .i64 0)).setCell ⟨q, 2, none⟩ (.int .i64 0)).setCell ⟨q, 3, none⟩ (.int .i64 0)).setCell ⟨q, 4, none⟩ (.bool false)).setCell ⟨q, 5, none⟩ (.int .i64 0)).setCell ⟨q, 6, none⟩ (.slice none 0 0)).setCell ⟨q, 7, none⟩ (.slice none 0 0)).setCell ⟨q, 8, none⟩ (.slice none 0 0)) := (Bs (p := ⟨q, 8, none⟩) (u := .slice none 0 0) (Bs (p := ⟨q, 7, none⟩) (u := .slice none 0 0) (Bs (p := ⟨q, 6, none⟩) (u := .slice none 0 0) (Bs (p := ⟨q, 5, none⟩) (u := .int .i64 0) (Bs (p := ⟨q, 4, none⟩) (u := .bool false) (Bs (p := ⟨q, 3, none⟩) (u := .int .i64 0) (Bs (p := ⟨q, 2, none⟩) (u := .int .i64 0) (Bs (p := ⟨q, 1, none⟩) (u := .int .i64 0) (Bs (p := ⟨q, 0, none⟩) (u := .int .i64 0) B4 hwq) hwq) hwq) hwq) hwq) hwq) hwq) hwq) hwq)
    go_wp2_with fail
    generalize (((((((((w4.setCell ⟨q, 0, none⟩ (.int .i64 0)).setCell ⟨q, 1, none⟩ (.int .i64 0)).setCell ⟨q, 2, none⟩ (.int .i64 0)).setCell ⟨q, 3, none⟩ (.int .i64 0)).setCell ⟨q, 4, none⟩ (.bool false)).setCell ⟨q, 5, none⟩ (.int .i64 0)).setCell ⟨q, 6, none⟩ (.slice none 0 0)).setCell ⟨q, 7, none⟩ (.slice none 0 0)).setCell ⟨q, 8, none⟩ (.slice none 0 0)) = w7 at *
    have hqq := HQ.out
    refine bodyPost_ret (v := .tuple #[.agg #[.int .i64 0, .int .i64 0, .int .i64 0, .int .i64 0, .bool false, .int .i64 0, .slice none 0 0, .slice none 0 0, .slice none 0 0], .int .i64 1100]) (by simp [e0, e1, e2, e3, e4, e5, e6, e7, e8, results, Try.results8, go_sem]) rfl ⟨_, rec0, 1100, rfl, ?_, ?_, ?_, B7⟩
    · exact RVal.zero _ _ _
    · exact small_zero
    · exact HO.out
  subst he
  have hne : ¬ t = s := fun h => hok ⟨rfl, h⟩
  have hbe : (t == s) = false := by simpa using hne
  clear hok hne EQ
  go_upto_region 6 with fail
  clear EG
  have d0 := a4.cell 0
  have d1 := a4.cell 1
  have d2 := a4.cell 2
  have d3 := a4.cell 3
  have d4 := a4.cell 4
  have d5 := a4.cell 5
  have d6 := a4.cell 6
  have d7 := a4.cell 7
  have d8 := a4.cell 8
  have f0 := a4.frozen 0
  have f1 := a4.frozen 1
  have f2 := a4.frozen 2
  have f3 := a4.frozen 3
  have f4 := a4.frozen 4
  have f5 := a4.frozen 5
  have f6 := a4.frozen 6
  have f7 := a4.frozen 7
  have f8 := a4.frozen 8
  simp at d0 d1 d2 d3 d4 d5 d6 d7 d8
  have a7 := (((((((((a4.set_ 0 (.int .i64 0)).set_ 1 (.int .i64 0)).set_ 2 (.int .i64 0)).set_ 3 (.int .i64 0)).set_ 4 (.bool false)).set_ 5 (.int .i64 0)).set_ 6 (.slice none 0 0)).set_ 7 (.slice none 0 0)).set_ 8 (.slice none 0 0))
  have e0 := a7.cell 0
  have e1 := a7.cell 1
  have e2 := a7.cell 2
  have e3 := a7.cell 3
  have e4 := a7.cell 4
  have e5 := a7.cell 5
  have e6 := a7.cell 6
  have e7 := a7.cell 7
  have e8 := a7.cell 8
  simp at e0 e1 e2 e3 e4 e5 e6 e7 e8
  have B7 : Below w.heap.size w (((((((((w4.setCell ⟨q, 0, none⟩ (.int .i64 0)).setCell ⟨q, 1, none⟩ (.int .i64 0)).setCell ⟨q, 2, none⟩ (.int .i64 0)).setCell ⟨q, 3, none⟩ (.int .i64 0)).setCell ⟨q, 4, none⟩ (.bool false)).setCell ⟨q, 5, none⟩ (.int .i64 0)).setCell ⟨q, 6, none⟩ (.slice none 0 0)).setCell ⟨q, 7, none⟩ (.slice none 0 0)).setCell ⟨q, 8, none⟩ (.slice none 0 0)) := (Bs (p := ⟨q, 8, none⟩) (u := .slice none 0 0) (Bs (p := ⟨q, 7, none⟩) (u := .slice none 0 0) (Bs (p := ⟨q, 6, none⟩) (u := .slice none 0 0) (Bs (p := ⟨q, 5, none⟩) (u := .int .i64 0) (Bs (p := ⟨q, 4, none⟩) (u := .bool false) (Bs (p := ⟨q, 3, none⟩) (u := .int .i64 0) (Bs (p := ⟨q, 2, none⟩) (u := .int .i64 0) (Bs (p := ⟨q, 1, none⟩) (u := .int .i64 0) (Bs (p := ⟨q, 0, none⟩) (u := .int .i64 0) B4 hwq) hwq) hwq) hwq) hwq) hwq) hwq) hwq) hwq)
  go_wp2_with fail
  generalize (((((((((w4.setCell ⟨q, 0, none⟩ (.int .i64 0)).setCell ⟨q, 1, none⟩ (.int .i64 0)).setCell ⟨q, 2, none⟩ (.int .i64 0)).setCell ⟨q, 3, none⟩ (.int .i64 0)).setCell ⟨q, 4, none⟩ (.bool false)).setCell ⟨q, 5, none⟩ (.int .i64 0)).setCell ⟨q, 6, none⟩ (.slice none 0 0)).setCell ⟨q, 7, none⟩ (.slice none 0 0)).setCell ⟨q, 8, none⟩ (.slice none 0 0)) = w7 at *
  have hqq := HQ.out
  refine bodyPost_ret (v := .tuple #[.agg #[.int .i64 0, .int .i64 0, .int .i64 0, .int .i64 0, .bool false, .int .i64 0, .slice none 0 0, .slice none 0 0, .slice none 0 0], .int .i64 1100]) (by simp [e0, e1, e2, e3, e4, e5, e6, e7, e8, results, Try.results8, go_sem]) rfl ⟨_, rec0, 1100, rfl, ?_, ?_, ?_, B7⟩
  · exact RVal.zero _ _ _
  · exact small_zero
  · exact HO.out
end Go.Proofs.Ytmjliomgkcmjaaa.RecW
