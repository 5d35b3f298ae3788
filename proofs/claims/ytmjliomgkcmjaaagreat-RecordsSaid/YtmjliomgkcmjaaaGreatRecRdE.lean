import Derived.Test.YtmjliomgkcmjaaaGreatRecRdC
/-
  The walk of the program's own reader of an operation (written by tools/gen/recop.py).
-/
namespace Go.Proofs.YtmjliomgkcmjaaaGreat.RecW
open Go.RowKit Shp IntW WideW CovW ShpW
set_option linter.all false

def SmallO (o : OpV) : Prop := (o.rs.length ≤ 255 ∧ ∀ r ∈ o.rs, r.length ≤ 255) ∧ o.ss.length ≤ 255 ∧ o.os.length ≤ 255
theorem SmallO.few {o : OpV} (h : SmallO o) : Few o := ⟨by have := h.1.1; omega, fun r hr => by have := h.1.2 r hr; omega, by have := h.2.1; omega, by have := h.2.2; omega⟩
/-- An operation's value whose rows lie in blocks from lo to hi. -/
def OVal (w : World) (lo hi : Nat) (v : Value) (o : OpV) : Prop := ∃ rv v1 v2, v = .agg #[.int .i64 o.kind, .int .i64 o.fid, .int .i64 o.sh, rv, .int .i64 o.id, .int .i64 o.ep, v1, v2] ∧ RRow w lo hi rv o.rs ∧ IRow w lo hi v1 o.ss ∧ IRow w lo hi v2 o.os

set_option maxRecDepth 100000 in
set_option maxHeartbeats 8000000 in
theorem gop_any (n : Nat) (s : Byts) (w : World) (h : Rr w n s) (hl : s.length ≤ 100000) :
    Calls Tryz.prog 75 #[.pointer (some ⟨n, 0, none⟩)] w fun e w' => ∃ (v : Value) (o : OpV) (s' : Byts), e = .returned v ∧ OVal w' w.heap.size w'.heap.size v o ∧ SmallO o ∧ Rr w' n s' ∧ Kr n w w' ∧ s'.length ≤ s.length ∧ Got gOp s o s' := by
  have lw := Blk.lt h
  have k1 : Kr n w (w.alloc (.cells #[.int .i64 0, .int .i64 0, .int .i64 0, .slice none 0 0, .int .i64 0, .int .i64 0, .slice none 0 0, .slice none 0 0] 51)) := (Kr.refl n w).alloc _
  have h1 : Rr (w.alloc (.cells #[.int .i64 0, .int .i64 0, .int .i64 0, .slice none 0 0, .int .i64 0, .int .i64 0, .slice none 0 0, .slice none 0 0] 51)) n s := Blk.alloc h _
  have a1 := Blk.new w 51 #[.int .i64 0, .int .i64 0, .int .i64 0, .slice none 0 0, .int .i64 0, .int .i64 0, .slice none 0 0, .slice none 0 0]
  go_enter Tryz.func75, Tryz.ntmps75
  go_wp2_with fail
  generalize w.alloc (.cells #[.int .i64 0, .int .i64 0, .int .i64 0, .slice none 0 0, .int .i64 0, .int .i64 0, .slice none 0 0, .slice none 0 0] 51) = w1 at *
  refine (gkind_any n s w1 h1 hl).mono ?_
  rintro _ w2 ⟨x, s1, rfl, h2, k2, hx, hl1, hg1⟩
  have HX := Lib.hid (And.intro hx (And.intro hl1 hg1))
  clear hx hg1
  have b3 := Blk.new w2 51 #[.int .i64 x, .int .i64 0, .int .i64 0, .slice none 0 0, .int .i64 0, .int .i64 0, .slice none 0 0, .slice none 0 0]
  have r3 : Rr (w2.alloc (.cells #[.int .i64 x, .int .i64 0, .int .i64 0, .slice none 0 0, .int .i64 0, .int .i64 0, .slice none 0 0, .slice none 0 0] 51)) n s1 := Blk.alloc h2 _
  have a3 := (k2.blk a1 (by omega)).alloc (.cells #[.int .i64 x, .int .i64 0, .int .i64 0, .slice none 0 0, .int .i64 0, .int .i64 0, .slice none 0 0, .slice none 0 0] 51)
  have k3 : Kr n w (w2.alloc (.cells #[.int .i64 x, .int .i64 0, .int .i64 0, .slice none 0 0, .int .i64 0, .int .i64 0, .slice none 0 0, .slice none 0 0] 51)) := (k1.trans k2).alloc _
  obtain ⟨g, hg⟩ : ∃ g, w2.heap.size = g := ⟨_, rfl⟩
  have hgn : g ≠ n := by have := Blk.lt h2; omega
  have hgw : w.heap.size < g := by have := a1.lt; have := k2.size; omega
  have hqn : w.heap.size ≠ n := by omega
  have hqg : w.heap.size ≠ g := by omega
  go_upto_region 2 with fail
  generalize w2.alloc (.cells #[.int .i64 x, .int .i64 0, .int .i64 0, .slice none 0 0, .int .i64 0, .int .i64 0, .slice none 0 0, .slice none 0 0] 51) = w3 at *
  rw [hg] at b3
  have hgs : g < w3.heap.size := b3.lt
  clear hg k1 k2 h1 h2 a1
  have c0 := b3.cell 0
  simp at c0
  by_cases k0 : x = 0
  case pos =>
    obtain rfl : x = 0 := k0
    go_wp2_with fail
    refine (gfeat_any n s1 w3 r3 (by omega)).mono ?_
    rintro _ w4 ⟨fid, sh, rv, rs, s2, rfl, hR, hlen, h4, k4, hl2, hg2⟩
    have HR := Lib.hid hR
    obtain ⟨us0, hR0, -⟩ := hR
    obtain ⟨Ar, cr, er⟩ := row_slice hR0.1
    obtain ⟨qr, hqr⟩ : ∃ q, rs.length = q := ⟨_, rfl⟩
    rw [hqr] at er
    have HE := Lib.hid (And.intro hqr hlen)
    subst er
    have HG := Lib.hid hg2
    clear hR0 hqr hlen hg2
    have b4 := k4.blk b3 hgn
    have a4 := k4.blk a3 hqn
    have c1 := b4.cell 1
    have c2 := b4.cell 2
    have c3 := b4.cell 3
    have z1 := b4.frozen 1
    have z2 := b4.frozen 2
    have z3 := b4.frozen 3
    simp at c1 c2 c3
    have b5 := (((b4.set_ 1 (.int .i64 fid)).set_ 2 (.int .i64 sh)).set_ 3 (.slice Ar qr cr))
    have a5 := (Blk.far (Blk.far (Blk.far a4 (p := ⟨g, 1, none⟩) (by show w.heap.size ≠ g; omega) (.int .i64 fid)) (p := ⟨g, 2, none⟩) (by show w.heap.size ≠ g; omega) (.int .i64 sh)) (p := ⟨g, 3, none⟩) (by show w.heap.size ≠ g; omega) (.slice Ar qr cr))
    have r5 : Rr (((w4.setCell ⟨g, 1, none⟩ (.int .i64 fid)).setCell ⟨g, 2, none⟩ (.int .i64 sh)).setCell ⟨g, 3, none⟩ (.slice Ar qr cr)) n s2 := (Blk.far (Blk.far (Blk.far h4 (p := ⟨g, 1, none⟩) (by show n ≠ g; omega) (.int .i64 fid)) (p := ⟨g, 2, none⟩) (by show n ≠ g; omega) (.int .i64 sh)) (p := ⟨g, 3, none⟩) (by show n ≠ g; omega) (.slice Ar qr cr))
    have k5 := (Kr.far (Kr.far (Kr.far (k3.trans k4) (p := ⟨g, 1, none⟩) (Nat.le_of_lt hgw) (.int .i64 fid)) (p := ⟨g, 2, none⟩) (Nat.le_of_lt hgw) (.int .i64 sh)) (p := ⟨g, 3, none⟩) (Nat.le_of_lt hgw) (.slice Ar qr cr))
    have s5 : (((w4.setCell ⟨g, 1, none⟩ (.int .i64 fid)).setCell ⟨g, 2, none⟩ (.int .i64 sh)).setCell ⟨g, 3, none⟩ (.slice Ar qr cr)).heap.size = w4.heap.size := by simp [World.setCell]
    have KT5 : Kt [74, 75] w3.heap.size w4.heap.size w4 (((w4.setCell ⟨g, 1, none⟩ (.int .i64 fid)).setCell ⟨g, 2, none⟩ (.int .i64 sh)).setCell ⟨g, 3, none⟩ (.slice Ar qr cr)) :=
      fun i cs t z1 z2 z3 z4 => ((Below.heap_setCell _ _ _ i (by show i ≠ g; omega)).trans ((Below.heap_setCell _ _ _ i (by show i ≠ g; omega)).trans ((Below.heap_setCell _ _ _ i (by show i ≠ g; omega)).trans z4)))
    have HR5 := Lib.hid ((HR.out.kept KT5 (by simp)).more (Nat.le_of_eq s5.symm))
    go_upto_region 9 with fail
    generalize (((w4.setCell ⟨g, 1, none⟩ (.int .i64 fid)).setCell ⟨g, 2, none⟩ (.int .i64 sh)).setCell ⟨g, 3, none⟩ (.slice Ar qr cr)) = w5 at *
    have u0 := b5.cell 0
    have u1 := b5.cell 1
    have u2 := b5.cell 2
    have u3 := b5.cell 3
    have u4 := b5.cell 4
    have u5 := b5.cell 5
    have u6 := b5.cell 6
    have u7 := b5.cell 7
    have d0 := a5.cell 0
    have d1 := a5.cell 1
    have d2 := a5.cell 2
    have d3 := a5.cell 3
    have d4 := a5.cell 4
    have d5 := a5.cell 5
    have d6 := a5.cell 6
    have d7 := a5.cell 7
    have f0 := a5.frozen 0
    have f1 := a5.frozen 1
    have f2 := a5.frozen 2
    have f3 := a5.frozen 3
    have f4 := a5.frozen 4
    have f5 := a5.frozen 5
    have f6 := a5.frozen 6
    have f7 := a5.frozen 7
    simp at u0 d0 u1 d1 u2 d2 u3 d3 u4 d4 u5 d5 u6 d6 u7 d7
    have a7 := ((((((((a5.set_ 0 (.int .i64 0)).set_ 1 (.int .i64 fid)).set_ 2 (.int .i64 sh)).set_ 3 (.slice Ar qr cr)).set_ 4 (.int .i64 0)).set_ 5 (.int .i64 0)).set_ 6 (.slice none 0 0)).set_ 7 (.slice none 0 0))
    have e0 := a7.cell 0
    have e1 := a7.cell 1
    have e2 := a7.cell 2
    have e3 := a7.cell 3
    have e4 := a7.cell 4
    have e5 := a7.cell 5
    have e6 := a7.cell 6
    have e7 := a7.cell 7
    simp at e0 e1 e2 e3 e4 e5 e6 e7
    have r7 : Rr ((((((((w5.setCell ⟨w.heap.size, 0, none⟩ (.int .i64 0)).setCell ⟨w.heap.size, 1, none⟩ (.int .i64 fid)).setCell ⟨w.heap.size, 2, none⟩ (.int .i64 sh)).setCell ⟨w.heap.size, 3, none⟩ (.slice Ar qr cr)).setCell ⟨w.heap.size, 4, none⟩ (.int .i64 0)).setCell ⟨w.heap.size, 5, none⟩ (.int .i64 0)).setCell ⟨w.heap.size, 6, none⟩ (.slice none 0 0)).setCell ⟨w.heap.size, 7, none⟩ (.slice none 0 0)) n s2 := (Blk.far (Blk.far (Blk.far (Blk.far (Blk.far (Blk.far (Blk.far (Blk.far r5 (p := ⟨w.heap.size, 0, none⟩) (by show n ≠ w.heap.size; omega) (.int .i64 0)) (p := ⟨w.heap.size, 1, none⟩) (by show n ≠ w.heap.size; omega) (.int .i64 fid)) (p := ⟨w.heap.size, 2, none⟩) (by show n ≠ w.heap.size; omega) (.int .i64 sh)) (p := ⟨w.heap.size, 3, none⟩) (by show n ≠ w.heap.size; omega) (.slice Ar qr cr)) (p := ⟨w.heap.size, 4, none⟩) (by show n ≠ w.heap.size; omega) (.int .i64 0)) (p := ⟨w.heap.size, 5, none⟩) (by show n ≠ w.heap.size; omega) (.int .i64 0)) (p := ⟨w.heap.size, 6, none⟩) (by show n ≠ w.heap.size; omega) (.slice none 0 0)) (p := ⟨w.heap.size, 7, none⟩) (by show n ≠ w.heap.size; omega) (.slice none 0 0))
    have k7 := (Kr.far (Kr.far (Kr.far (Kr.far (Kr.far (Kr.far (Kr.far (Kr.far k5 (p := ⟨w.heap.size, 0, none⟩) (Nat.le_refl _) (.int .i64 0)) (p := ⟨w.heap.size, 1, none⟩) (Nat.le_refl _) (.int .i64 fid)) (p := ⟨w.heap.size, 2, none⟩) (Nat.le_refl _) (.int .i64 sh)) (p := ⟨w.heap.size, 3, none⟩) (Nat.le_refl _) (.slice Ar qr cr)) (p := ⟨w.heap.size, 4, none⟩) (Nat.le_refl _) (.int .i64 0)) (p := ⟨w.heap.size, 5, none⟩) (Nat.le_refl _) (.int .i64 0)) (p := ⟨w.heap.size, 6, none⟩) (Nat.le_refl _) (.slice none 0 0)) (p := ⟨w.heap.size, 7, none⟩) (Nat.le_refl _) (.slice none 0 0))
    have KT : Kt [74, 75, 3] (w.heap.size + 1) w5.heap.size w5 ((((((((w5.setCell ⟨w.heap.size, 0, none⟩ (.int .i64 0)).setCell ⟨w.heap.size, 1, none⟩ (.int .i64 fid)).setCell ⟨w.heap.size, 2, none⟩ (.int .i64 sh)).setCell ⟨w.heap.size, 3, none⟩ (.slice Ar qr cr)).setCell ⟨w.heap.size, 4, none⟩ (.int .i64 0)).setCell ⟨w.heap.size, 5, none⟩ (.int .i64 0)).setCell ⟨w.heap.size, 6, none⟩ (.slice none 0 0)).setCell ⟨w.heap.size, 7, none⟩ (.slice none 0 0)) :=
      fun i cs t z1 z2 z3 z4 => ((Below.heap_setCell _ _ _ i (by show i ≠ w.heap.size; omega)).trans ((Below.heap_setCell _ _ _ i (by show i ≠ w.heap.size; omega)).trans ((Below.heap_setCell _ _ _ i (by show i ≠ w.heap.size; omega)).trans ((Below.heap_setCell _ _ _ i (by show i ≠ w.heap.size; omega)).trans ((Below.heap_setCell _ _ _ i (by show i ≠ w.heap.size; omega)).trans ((Below.heap_setCell _ _ _ i (by show i ≠ w.heap.size; omega)).trans ((Below.heap_setCell _ _ _ i (by show i ≠ w.heap.size; omega)).trans ((Below.heap_setCell _ _ _ i (by show i ≠ w.heap.size; omega)).trans z4))))))))
    have s7 : ((((((((w5.setCell ⟨w.heap.size, 0, none⟩ (.int .i64 0)).setCell ⟨w.heap.size, 1, none⟩ (.int .i64 fid)).setCell ⟨w.heap.size, 2, none⟩ (.int .i64 sh)).setCell ⟨w.heap.size, 3, none⟩ (.slice Ar qr cr)).setCell ⟨w.heap.size, 4, none⟩ (.int .i64 0)).setCell ⟨w.heap.size, 5, none⟩ (.int .i64 0)).setCell ⟨w.heap.size, 6, none⟩ (.slice none 0 0)).setCell ⟨w.heap.size, 7, none⟩ (.slice none 0 0)).heap.size = w5.heap.size := by simp [World.setCell]
    go_wp2_with fail
    generalize ((((((((w5.setCell ⟨w.heap.size, 0, none⟩ (.int .i64 0)).setCell ⟨w.heap.size, 1, none⟩ (.int .i64 fid)).setCell ⟨w.heap.size, 2, none⟩ (.int .i64 sh)).setCell ⟨w.heap.size, 3, none⟩ (.slice Ar qr cr)).setCell ⟨w.heap.size, 4, none⟩ (.int .i64 0)).setCell ⟨w.heap.size, 5, none⟩ (.int .i64 0)).setCell ⟨w.heap.size, 6, none⟩ (.slice none 0 0)).setCell ⟨w.heap.size, 7, none⟩ (.slice none 0 0)) = w7 at *
    refine bodyPost_ret (v := .agg #[.int .i64 0, .int .i64 fid, .int .i64 sh, .slice Ar qr cr, .int .i64 0, .int .i64 0, .slice none 0 0, .slice none 0 0]) (by simp [e0, e1, e2, e3, e4, e5, e6, e7, results, Tryz.results75, go_sem]) rfl ⟨_, ⟨0, fid, sh, rs, 0, 0, [], []⟩, s2, rfl, ?_, ?_, r7, k7, by omega, ?_⟩
    · rw [s7]
      refine ⟨_, _, _, rfl, ?_, IRow.nil _ _ _, IRow.nil _ _ _⟩
      exact (HR5.out.kept (KT.less (by omega) (Nat.le_refl _)) (by simp)).less (by omega)
    · exact ⟨HE.out.2, by simp, by simp⟩
    · exact got_op HX.out.2.2 (fun _ => ⟨_, _, _, HG.out, rfl⟩) (fun e => by simp at e) (fun e => by simp at e)
  by_cases k1 : x = 1
  case pos =>
    obtain rfl : x = 1 := k1
    go_wp2_with fail
    refine (gnum_any n 2 s1 w3 (.inr (.inl rfl)) r3 (by omega)).mono ?_
    rintro _ w4 ⟨i, s2, rfl, h4, k4, hi, hl2, hg2⟩
    have HG := Lib.hid hg2
    clear hg2 hi
    have b4 := k4.blk b3 hgn
    have a4 := k4.blk a3 hqn
    have c4 := b4.cell 4
    have z4 := b4.frozen 4
    simp at c4
    have b5 := (b4.set_ 4 (.int .i64 i))
    have a5 := (Blk.far a4 (p := ⟨g, 4, none⟩) (by show w.heap.size ≠ g; omega) (.int .i64 i))
    have r5 : Rr (w4.setCell ⟨g, 4, none⟩ (.int .i64 i)) n s2 := (Blk.far h4 (p := ⟨g, 4, none⟩) (by show n ≠ g; omega) (.int .i64 i))
    have k5 := (Kr.far (k3.trans k4) (p := ⟨g, 4, none⟩) (Nat.le_of_lt hgw) (.int .i64 i))
    go_upto_region 9 with fail
    generalize (w4.setCell ⟨g, 4, none⟩ (.int .i64 i)) = w5 at *
    have u0 := b5.cell 0
    have u1 := b5.cell 1
    have u2 := b5.cell 2
    have u3 := b5.cell 3
    have u4 := b5.cell 4
    have u5 := b5.cell 5
    have u6 := b5.cell 6
    have u7 := b5.cell 7
    have d0 := a5.cell 0
    have d1 := a5.cell 1
    have d2 := a5.cell 2
    have d3 := a5.cell 3
    have d4 := a5.cell 4
    have d5 := a5.cell 5
    have d6 := a5.cell 6
    have d7 := a5.cell 7
    have f0 := a5.frozen 0
    have f1 := a5.frozen 1
    have f2 := a5.frozen 2
    have f3 := a5.frozen 3
    have f4 := a5.frozen 4
    have f5 := a5.frozen 5
    have f6 := a5.frozen 6
    have f7 := a5.frozen 7
    simp at u0 d0 u1 d1 u2 d2 u3 d3 u4 d4 u5 d5 u6 d6 u7 d7
    have a7 := ((((((((a5.set_ 0 (.int .i64 1)).set_ 1 (.int .i64 0)).set_ 2 (.int .i64 0)).set_ 3 (.slice none 0 0)).set_ 4 (.int .i64 i)).set_ 5 (.int .i64 0)).set_ 6 (.slice none 0 0)).set_ 7 (.slice none 0 0))
    have e0 := a7.cell 0
    have e1 := a7.cell 1
    have e2 := a7.cell 2
    have e3 := a7.cell 3
    have e4 := a7.cell 4
    have e5 := a7.cell 5
    have e6 := a7.cell 6
    have e7 := a7.cell 7
    simp at e0 e1 e2 e3 e4 e5 e6 e7
    have r7 : Rr ((((((((w5.setCell ⟨w.heap.size, 0, none⟩ (.int .i64 1)).setCell ⟨w.heap.size, 1, none⟩ (.int .i64 0)).setCell ⟨w.heap.size, 2, none⟩ (.int .i64 0)).setCell ⟨w.heap.size, 3, none⟩ (.slice none 0 0)).setCell ⟨w.heap.size, 4, none⟩ (.int .i64 i)).setCell ⟨w.heap.size, 5, none⟩ (.int .i64 0)).setCell ⟨w.heap.size, 6, none⟩ (.slice none 0 0)).setCell ⟨w.heap.size, 7, none⟩ (.slice none 0 0)) n s2 := (Blk.far (Blk.far (Blk.far (Blk.far (Blk.far (Blk.far (Blk.far (Blk.far r5 (p := ⟨w.heap.size, 0, none⟩) (by show n ≠ w.heap.size; omega) (.int .i64 1)) (p := ⟨w.heap.size, 1, none⟩) (by show n ≠ w.heap.size; omega) (.int .i64 0)) (p := ⟨w.heap.size, 2, none⟩) (by show n ≠ w.heap.size; omega) (.int .i64 0)) (p := ⟨w.heap.size, 3, none⟩) (by show n ≠ w.heap.size; omega) (.slice none 0 0)) (p := ⟨w.heap.size, 4, none⟩) (by show n ≠ w.heap.size; omega) (.int .i64 i)) (p := ⟨w.heap.size, 5, none⟩) (by show n ≠ w.heap.size; omega) (.int .i64 0)) (p := ⟨w.heap.size, 6, none⟩) (by show n ≠ w.heap.size; omega) (.slice none 0 0)) (p := ⟨w.heap.size, 7, none⟩) (by show n ≠ w.heap.size; omega) (.slice none 0 0))
    have k7 := (Kr.far (Kr.far (Kr.far (Kr.far (Kr.far (Kr.far (Kr.far (Kr.far k5 (p := ⟨w.heap.size, 0, none⟩) (Nat.le_refl _) (.int .i64 1)) (p := ⟨w.heap.size, 1, none⟩) (Nat.le_refl _) (.int .i64 0)) (p := ⟨w.heap.size, 2, none⟩) (Nat.le_refl _) (.int .i64 0)) (p := ⟨w.heap.size, 3, none⟩) (Nat.le_refl _) (.slice none 0 0)) (p := ⟨w.heap.size, 4, none⟩) (Nat.le_refl _) (.int .i64 i)) (p := ⟨w.heap.size, 5, none⟩) (Nat.le_refl _) (.int .i64 0)) (p := ⟨w.heap.size, 6, none⟩) (Nat.le_refl _) (.slice none 0 0)) (p := ⟨w.heap.size, 7, none⟩) (Nat.le_refl _) (.slice none 0 0))
    have KT : Kt [74, 75, 3] (w.heap.size + 1) w5.heap.size w5 ((((((((w5.setCell ⟨w.heap.size, 0, none⟩ (.int .i64 1)).setCell ⟨w.heap.size, 1, none⟩ (.int .i64 0)).setCell ⟨w.heap.size, 2, none⟩ (.int .i64 0)).setCell ⟨w.heap.size, 3, none⟩ (.slice none 0 0)).setCell ⟨w.heap.size, 4, none⟩ (.int .i64 i)).setCell ⟨w.heap.size, 5, none⟩ (.int .i64 0)).setCell ⟨w.heap.size, 6, none⟩ (.slice none 0 0)).setCell ⟨w.heap.size, 7, none⟩ (.slice none 0 0)) :=
      fun i cs t z1 z2 z3 z4 => ((Below.heap_setCell _ _ _ i (by show i ≠ w.heap.size; omega)).trans ((Below.heap_setCell _ _ _ i (by show i ≠ w.heap.size; omega)).trans ((Below.heap_setCell _ _ _ i (by show i ≠ w.heap.size; omega)).trans ((Below.heap_setCell _ _ _ i (by show i ≠ w.heap.size; omega)).trans ((Below.heap_setCell _ _ _ i (by show i ≠ w.heap.size; omega)).trans ((Below.heap_setCell _ _ _ i (by show i ≠ w.heap.size; omega)).trans ((Below.heap_setCell _ _ _ i (by show i ≠ w.heap.size; omega)).trans ((Below.heap_setCell _ _ _ i (by show i ≠ w.heap.size; omega)).trans z4))))))))
    have s7 : ((((((((w5.setCell ⟨w.heap.size, 0, none⟩ (.int .i64 1)).setCell ⟨w.heap.size, 1, none⟩ (.int .i64 0)).setCell ⟨w.heap.size, 2, none⟩ (.int .i64 0)).setCell ⟨w.heap.size, 3, none⟩ (.slice none 0 0)).setCell ⟨w.heap.size, 4, none⟩ (.int .i64 i)).setCell ⟨w.heap.size, 5, none⟩ (.int .i64 0)).setCell ⟨w.heap.size, 6, none⟩ (.slice none 0 0)).setCell ⟨w.heap.size, 7, none⟩ (.slice none 0 0)).heap.size = w5.heap.size := by simp [World.setCell]
    go_wp2_with fail
    generalize ((((((((w5.setCell ⟨w.heap.size, 0, none⟩ (.int .i64 1)).setCell ⟨w.heap.size, 1, none⟩ (.int .i64 0)).setCell ⟨w.heap.size, 2, none⟩ (.int .i64 0)).setCell ⟨w.heap.size, 3, none⟩ (.slice none 0 0)).setCell ⟨w.heap.size, 4, none⟩ (.int .i64 i)).setCell ⟨w.heap.size, 5, none⟩ (.int .i64 0)).setCell ⟨w.heap.size, 6, none⟩ (.slice none 0 0)).setCell ⟨w.heap.size, 7, none⟩ (.slice none 0 0)) = w7 at *
    refine bodyPost_ret (v := .agg #[.int .i64 1, .int .i64 0, .int .i64 0, .slice none 0 0, .int .i64 i, .int .i64 0, .slice none 0 0, .slice none 0 0]) (by simp [e0, e1, e2, e3, e4, e5, e6, e7, results, Tryz.results75, go_sem]) rfl ⟨_, ⟨1, 0, 0, [], i, 0, [], []⟩, s2, rfl, ?_, ?_, r7, k7, by omega, ?_⟩
    · exact ⟨_, _, _, rfl, RRow.nil _ _ _, IRow.nil _ _ _, IRow.nil _ _ _⟩
    · exact ⟨by simp, by simp, by simp⟩
    · exact got_op HX.out.2.2 (fun e => by simp at e) (fun _ => ⟨_, HG.out, rfl⟩) (fun e => by simp at e)
  by_cases k2' : x = 2
  case pos =>
    obtain rfl : x = 2 := k2'
    go_wp2_with fail
    refine (gmap_any n s1 w3 r3 (by omega)).mono ?_
    rintro _ w4 ⟨ep, v1, v2, ss, os, s2, rfl, ⟨hR1, hR2, -⟩, hlen, h4, k4, hl2, hg2⟩
    obtain ⟨A1, c1', er1⟩ := row_slice hR1.1
    obtain ⟨A2, c2', er2⟩ := row_slice hR2.1
    obtain ⟨q1, hq1⟩ : ∃ q, ss.length = q := ⟨_, rfl⟩
    obtain ⟨q2, hq2⟩ : ∃ q, os.length = q := ⟨_, rfl⟩
    rw [hq1] at er1
    rw [hq2] at er2
    subst er1 er2
    have HR := Lib.hid (And.intro hR1 hR2)
    have HE := Lib.hid hlen
    have HG := Lib.hid hg2
    clear hR1 hR2 hq1 hq2 hlen hg2
    have b4 := k4.blk b3 hgn
    have a4 := k4.blk a3 hqn
    have c5 := b4.cell 5
    have c6 := b4.cell 6
    have c7 := b4.cell 7
    have z5 := b4.frozen 5
    have z6 := b4.frozen 6
    have z7 := b4.frozen 7
    simp at c5 c6 c7
    have b5 := (((b4.set_ 5 (.int .i64 ep)).set_ 6 (.slice A1 q1 c1')).set_ 7 (.slice A2 q2 c2'))
    have a5 := (Blk.far (Blk.far (Blk.far a4 (p := ⟨g, 5, none⟩) (by show w.heap.size ≠ g; omega) (.int .i64 ep)) (p := ⟨g, 6, none⟩) (by show w.heap.size ≠ g; omega) (.slice A1 q1 c1')) (p := ⟨g, 7, none⟩) (by show w.heap.size ≠ g; omega) (.slice A2 q2 c2'))
    have r5 : Rr (((w4.setCell ⟨g, 5, none⟩ (.int .i64 ep)).setCell ⟨g, 6, none⟩ (.slice A1 q1 c1')).setCell ⟨g, 7, none⟩ (.slice A2 q2 c2')) n s2 := (Blk.far (Blk.far (Blk.far h4 (p := ⟨g, 5, none⟩) (by show n ≠ g; omega) (.int .i64 ep)) (p := ⟨g, 6, none⟩) (by show n ≠ g; omega) (.slice A1 q1 c1')) (p := ⟨g, 7, none⟩) (by show n ≠ g; omega) (.slice A2 q2 c2'))
    have k5 := (Kr.far (Kr.far (Kr.far (k3.trans k4) (p := ⟨g, 5, none⟩) (Nat.le_of_lt hgw) (.int .i64 ep)) (p := ⟨g, 6, none⟩) (Nat.le_of_lt hgw) (.slice A1 q1 c1')) (p := ⟨g, 7, none⟩) (Nat.le_of_lt hgw) (.slice A2 q2 c2'))
    have s5 : (((w4.setCell ⟨g, 5, none⟩ (.int .i64 ep)).setCell ⟨g, 6, none⟩ (.slice A1 q1 c1')).setCell ⟨g, 7, none⟩ (.slice A2 q2 c2')).heap.size = w4.heap.size := by simp [World.setCell]
    have KT5 : Kt [3] w3.heap.size w4.heap.size w4 (((w4.setCell ⟨g, 5, none⟩ (.int .i64 ep)).setCell ⟨g, 6, none⟩ (.slice A1 q1 c1')).setCell ⟨g, 7, none⟩ (.slice A2 q2 c2')) :=
      fun i cs t z1 z2 z3 z4 => ((Below.heap_setCell _ _ _ i (by show i ≠ g; omega)).trans ((Below.heap_setCell _ _ _ i (by show i ≠ g; omega)).trans ((Below.heap_setCell _ _ _ i (by show i ≠ g; omega)).trans z4)))
    have HR5 := Lib.hid (And.intro ((HR.out.1.kept KT5 (by simp)).more (Nat.le_of_eq s5.symm)) ((HR.out.2.kept KT5 (by simp)).more (Nat.le_of_eq s5.symm)))
    go_upto_region 9 with fail
    generalize (((w4.setCell ⟨g, 5, none⟩ (.int .i64 ep)).setCell ⟨g, 6, none⟩ (.slice A1 q1 c1')).setCell ⟨g, 7, none⟩ (.slice A2 q2 c2')) = w5 at *
    have u0 := b5.cell 0
    have u1 := b5.cell 1
    have u2 := b5.cell 2
    have u3 := b5.cell 3
    have u4 := b5.cell 4
    have u5 := b5.cell 5
    have u6 := b5.cell 6
    have u7 := b5.cell 7
    have d0 := a5.cell 0
    have d1 := a5.cell 1
    have d2 := a5.cell 2
    have d3 := a5.cell 3
    have d4 := a5.cell 4
    have d5 := a5.cell 5
    have d6 := a5.cell 6
    have d7 := a5.cell 7
    have f0 := a5.frozen 0
    have f1 := a5.frozen 1
    have f2 := a5.frozen 2
    have f3 := a5.frozen 3
    have f4 := a5.frozen 4
    have f5 := a5.frozen 5
    have f6 := a5.frozen 6
    have f7 := a5.frozen 7
    simp at u0 d0 u1 d1 u2 d2 u3 d3 u4 d4 u5 d5 u6 d6 u7 d7
    have a7 := ((((((((a5.set_ 0 (.int .i64 2)).set_ 1 (.int .i64 0)).set_ 2 (.int .i64 0)).set_ 3 (.slice none 0 0)).set_ 4 (.int .i64 0)).set_ 5 (.int .i64 ep)).set_ 6 (.slice A1 q1 c1')).set_ 7 (.slice A2 q2 c2'))
    have e0 := a7.cell 0
    have e1 := a7.cell 1
    have e2 := a7.cell 2
    have e3 := a7.cell 3
    have e4 := a7.cell 4
    have e5 := a7.cell 5
    have e6 := a7.cell 6
    have e7 := a7.cell 7
    simp at e0 e1 e2 e3 e4 e5 e6 e7
    have r7 : Rr ((((((((w5.setCell ⟨w.heap.size, 0, none⟩ (.int .i64 2)).setCell ⟨w.heap.size, 1, none⟩ (.int .i64 0)).setCell ⟨w.heap.size, 2, none⟩ (.int .i64 0)).setCell ⟨w.heap.size, 3, none⟩ (.slice none 0 0)).setCell ⟨w.heap.size, 4, none⟩ (.int .i64 0)).setCell ⟨w.heap.size, 5, none⟩ (.int .i64 ep)).setCell ⟨w.heap.size, 6, none⟩ (.slice A1 q1 c1')).setCell ⟨w.heap.size, 7, none⟩ (.slice A2 q2 c2')) n s2 := (Blk.far (Blk.far (Blk.far (Blk.far (Blk.far (Blk.far (Blk.far (Blk.far r5 (p := ⟨w.heap.size, 0, none⟩) (by show n ≠ w.heap.size; omega) (.int .i64 2)) (p := ⟨w.heap.size, 1, none⟩) (by show n ≠ w.heap.size; omega) (.int .i64 0)) (p := ⟨w.heap.size, 2, none⟩) (by show n ≠ w.heap.size; omega) (.int .i64 0)) (p := ⟨w.heap.size, 3, none⟩) (by show n ≠ w.heap.size; omega) (.slice none 0 0)) (p := ⟨w.heap.size, 4, none⟩) (by show n ≠ w.heap.size; omega) (.int .i64 0)) (p := ⟨w.heap.size, 5, none⟩) (by show n ≠ w.heap.size; omega) (.int .i64 ep)) (p := ⟨w.heap.size, 6, none⟩) (by show n ≠ w.heap.size; omega) (.slice A1 q1 c1')) (p := ⟨w.heap.size, 7, none⟩) (by show n ≠ w.heap.size; omega) (.slice A2 q2 c2'))
    have k7 := (Kr.far (Kr.far (Kr.far (Kr.far (Kr.far (Kr.far (Kr.far (Kr.far k5 (p := ⟨w.heap.size, 0, none⟩) (Nat.le_refl _) (.int .i64 2)) (p := ⟨w.heap.size, 1, none⟩) (Nat.le_refl _) (.int .i64 0)) (p := ⟨w.heap.size, 2, none⟩) (Nat.le_refl _) (.int .i64 0)) (p := ⟨w.heap.size, 3, none⟩) (Nat.le_refl _) (.slice none 0 0)) (p := ⟨w.heap.size, 4, none⟩) (Nat.le_refl _) (.int .i64 0)) (p := ⟨w.heap.size, 5, none⟩) (Nat.le_refl _) (.int .i64 ep)) (p := ⟨w.heap.size, 6, none⟩) (Nat.le_refl _) (.slice A1 q1 c1')) (p := ⟨w.heap.size, 7, none⟩) (Nat.le_refl _) (.slice A2 q2 c2'))
    have KT : Kt [74, 75, 3] (w.heap.size + 1) w5.heap.size w5 ((((((((w5.setCell ⟨w.heap.size, 0, none⟩ (.int .i64 2)).setCell ⟨w.heap.size, 1, none⟩ (.int .i64 0)).setCell ⟨w.heap.size, 2, none⟩ (.int .i64 0)).setCell ⟨w.heap.size, 3, none⟩ (.slice none 0 0)).setCell ⟨w.heap.size, 4, none⟩ (.int .i64 0)).setCell ⟨w.heap.size, 5, none⟩ (.int .i64 ep)).setCell ⟨w.heap.size, 6, none⟩ (.slice A1 q1 c1')).setCell ⟨w.heap.size, 7, none⟩ (.slice A2 q2 c2')) :=
      fun i cs t z1 z2 z3 z4 => ((Below.heap_setCell _ _ _ i (by show i ≠ w.heap.size; omega)).trans ((Below.heap_setCell _ _ _ i (by show i ≠ w.heap.size; omega)).trans ((Below.heap_setCell _ _ _ i (by show i ≠ w.heap.size; omega)).trans ((Below.heap_setCell _ _ _ i (by show i ≠ w.heap.size; omega)).trans ((Below.heap_setCell _ _ _ i (by show i ≠ w.heap.size; omega)).trans ((Below.heap_setCell _ _ _ i (by show i ≠ w.heap.size; omega)).trans ((Below.heap_setCell _ _ _ i (by show i ≠ w.heap.size; omega)).trans ((Below.heap_setCell _ _ _ i (by show i ≠ w.heap.size; omega)).trans z4))))))))
    have s7 : ((((((((w5.setCell ⟨w.heap.size, 0, none⟩ (.int .i64 2)).setCell ⟨w.heap.size, 1, none⟩ (.int .i64 0)).setCell ⟨w.heap.size, 2, none⟩ (.int .i64 0)).setCell ⟨w.heap.size, 3, none⟩ (.slice none 0 0)).setCell ⟨w.heap.size, 4, none⟩ (.int .i64 0)).setCell ⟨w.heap.size, 5, none⟩ (.int .i64 ep)).setCell ⟨w.heap.size, 6, none⟩ (.slice A1 q1 c1')).setCell ⟨w.heap.size, 7, none⟩ (.slice A2 q2 c2')).heap.size = w5.heap.size := by simp [World.setCell]
    go_wp2_with fail
    generalize ((((((((w5.setCell ⟨w.heap.size, 0, none⟩ (.int .i64 2)).setCell ⟨w.heap.size, 1, none⟩ (.int .i64 0)).setCell ⟨w.heap.size, 2, none⟩ (.int .i64 0)).setCell ⟨w.heap.size, 3, none⟩ (.slice none 0 0)).setCell ⟨w.heap.size, 4, none⟩ (.int .i64 0)).setCell ⟨w.heap.size, 5, none⟩ (.int .i64 ep)).setCell ⟨w.heap.size, 6, none⟩ (.slice A1 q1 c1')).setCell ⟨w.heap.size, 7, none⟩ (.slice A2 q2 c2')) = w7 at *
    refine bodyPost_ret (v := .agg #[.int .i64 2, .int .i64 0, .int .i64 0, .slice none 0 0, .int .i64 0, .int .i64 ep, .slice A1 q1 c1', .slice A2 q2 c2']) (by simp [e0, e1, e2, e3, e4, e5, e6, e7, results, Tryz.results75, go_sem]) rfl ⟨_, ⟨2, 0, 0, [], 0, ep, ss, os⟩, s2, rfl, ?_, ?_, r7, k7, by omega, ?_⟩
    · rw [s7]
      refine ⟨_, _, _, rfl, RRow.nil _ _ _, ?_, ?_⟩
      · exact (HR5.out.1.kept (KT.less (by omega) (Nat.le_refl _)) (by simp)).less (by omega)
      · exact (HR5.out.2.kept (KT.less (by omega) (Nat.le_refl _)) (by simp)).less (by omega)
    · exact ⟨by simp, HE.out⟩
    · exact got_op HX.out.2.2 (fun e => by simp at e) (fun e => by simp at e) (fun _ => ⟨_, _, _, HG.out, rfl⟩)
  have HK := Lib.hid (And.intro k0 (And.intro k1 k2'))
  have n0 : ((x : Int) == 0) = false := by simpa using k0
  have n1 : ((x : Int) == 1) = false := by simp; omega
  have n2 : ((x : Int) == 2) = false := by simp; omega
  clear k0 k1 k2'
  go_upto_region 9 with fail
  have u0 := b3.cell 0
  have u1 := b3.cell 1
  have u2 := b3.cell 2
  have u3 := b3.cell 3
  have u4 := b3.cell 4
  have u5 := b3.cell 5
  have u6 := b3.cell 6
  have u7 := b3.cell 7
  have d0 := a3.cell 0
  have d1 := a3.cell 1
  have d2 := a3.cell 2
  have d3 := a3.cell 3
  have d4 := a3.cell 4
  have d5 := a3.cell 5
  have d6 := a3.cell 6
  have d7 := a3.cell 7
  have f0 := a3.frozen 0
  have f1 := a3.frozen 1
  have f2 := a3.frozen 2
  have f3 := a3.frozen 3
  have f4 := a3.frozen 4
  have f5 := a3.frozen 5
  have f6 := a3.frozen 6
  have f7 := a3.frozen 7
  simp at u0 d0 u1 d1 u2 d2 u3 d3 u4 d4 u5 d5 u6 d6 u7 d7
  have a7 := ((((((((a3.set_ 0 (.int .i64 x)).set_ 1 (.int .i64 0)).set_ 2 (.int .i64 0)).set_ 3 (.slice none 0 0)).set_ 4 (.int .i64 0)).set_ 5 (.int .i64 0)).set_ 6 (.slice none 0 0)).set_ 7 (.slice none 0 0))
  have e0 := a7.cell 0
  have e1 := a7.cell 1
  have e2 := a7.cell 2
  have e3 := a7.cell 3
  have e4 := a7.cell 4
  have e5 := a7.cell 5
  have e6 := a7.cell 6
  have e7 := a7.cell 7
  simp at e0 e1 e2 e3 e4 e5 e6 e7
  have r7 : Rr ((((((((w3.setCell ⟨w.heap.size, 0, none⟩ (.int .i64 x)).setCell ⟨w.heap.size, 1, none⟩ (.int .i64 0)).setCell ⟨w.heap.size, 2, none⟩ (.int .i64 0)).setCell ⟨w.heap.size, 3, none⟩ (.slice none 0 0)).setCell ⟨w.heap.size, 4, none⟩ (.int .i64 0)).setCell ⟨w.heap.size, 5, none⟩ (.int .i64 0)).setCell ⟨w.heap.size, 6, none⟩ (.slice none 0 0)).setCell ⟨w.heap.size, 7, none⟩ (.slice none 0 0)) n s1 := (Blk.far (Blk.far (Blk.far (Blk.far (Blk.far (Blk.far (Blk.far (Blk.far r3 (p := ⟨w.heap.size, 0, none⟩) (by show n ≠ w.heap.size; omega) (.int .i64 x)) (p := ⟨w.heap.size, 1, none⟩) (by show n ≠ w.heap.size; omega) (.int .i64 0)) (p := ⟨w.heap.size, 2, none⟩) (by show n ≠ w.heap.size; omega) (.int .i64 0)) (p := ⟨w.heap.size, 3, none⟩) (by show n ≠ w.heap.size; omega) (.slice none 0 0)) (p := ⟨w.heap.size, 4, none⟩) (by show n ≠ w.heap.size; omega) (.int .i64 0)) (p := ⟨w.heap.size, 5, none⟩) (by show n ≠ w.heap.size; omega) (.int .i64 0)) (p := ⟨w.heap.size, 6, none⟩) (by show n ≠ w.heap.size; omega) (.slice none 0 0)) (p := ⟨w.heap.size, 7, none⟩) (by show n ≠ w.heap.size; omega) (.slice none 0 0))
  have k7 := (Kr.far (Kr.far (Kr.far (Kr.far (Kr.far (Kr.far (Kr.far (Kr.far k3 (p := ⟨w.heap.size, 0, none⟩) (Nat.le_refl _) (.int .i64 x)) (p := ⟨w.heap.size, 1, none⟩) (Nat.le_refl _) (.int .i64 0)) (p := ⟨w.heap.size, 2, none⟩) (Nat.le_refl _) (.int .i64 0)) (p := ⟨w.heap.size, 3, none⟩) (Nat.le_refl _) (.slice none 0 0)) (p := ⟨w.heap.size, 4, none⟩) (Nat.le_refl _) (.int .i64 0)) (p := ⟨w.heap.size, 5, none⟩) (Nat.le_refl _) (.int .i64 0)) (p := ⟨w.heap.size, 6, none⟩) (Nat.le_refl _) (.slice none 0 0)) (p := ⟨w.heap.size, 7, none⟩) (Nat.le_refl _) (.slice none 0 0))
  have KT : Kt [74, 75, 3] (w.heap.size + 1) w3.heap.size w3 ((((((((w3.setCell ⟨w.heap.size, 0, none⟩ (.int .i64 x)).setCell ⟨w.heap.size, 1, none⟩ (.int .i64 0)).setCell ⟨w.heap.size, 2, none⟩ (.int .i64 0)).setCell ⟨w.heap.size, 3, none⟩ (.slice none 0 0)).setCell ⟨w.heap.size, 4, none⟩ (.int .i64 0)).setCell ⟨w.heap.size, 5, none⟩ (.int .i64 0)).setCell ⟨w.heap.size, 6, none⟩ (.slice none 0 0)).setCell ⟨w.heap.size, 7, none⟩ (.slice none 0 0)) :=
    fun i cs t z1 z2 z3 z4 => ((Below.heap_setCell _ _ _ i (by show i ≠ w.heap.size; omega)).trans ((Below.heap_setCell _ _ _ i (by show i ≠ w.heap.size; omega)).trans ((Below.heap_setCell _ _ _ i (by show i ≠ w.heap.size; omega)).trans ((Below.heap_setCell _ _ _ i (by show i ≠ w.heap.size; omega)).trans ((Below.heap_setCell _ _ _ i (by show i ≠ w.heap.size; omega)).trans ((Below.heap_setCell _ _ _ i (by show i ≠ w.heap.size; omega)).trans ((Below.heap_setCell _ _ _ i (by show i ≠ w.heap.size; omega)).trans ((Below.heap_setCell _ _ _ i (by show i ≠ w.heap.size; omega)).trans z4))))))))
  have s7 : ((((((((w3.setCell ⟨w.heap.size, 0, none⟩ (.int .i64 x)).setCell ⟨w.heap.size, 1, none⟩ (.int .i64 0)).setCell ⟨w.heap.size, 2, none⟩ (.int .i64 0)).setCell ⟨w.heap.size, 3, none⟩ (.slice none 0 0)).setCell ⟨w.heap.size, 4, none⟩ (.int .i64 0)).setCell ⟨w.heap.size, 5, none⟩ (.int .i64 0)).setCell ⟨w.heap.size, 6, none⟩ (.slice none 0 0)).setCell ⟨w.heap.size, 7, none⟩ (.slice none 0 0)).heap.size = w3.heap.size := by simp [World.setCell]
  go_wp2_with fail
  generalize ((((((((w3.setCell ⟨w.heap.size, 0, none⟩ (.int .i64 x)).setCell ⟨w.heap.size, 1, none⟩ (.int .i64 0)).setCell ⟨w.heap.size, 2, none⟩ (.int .i64 0)).setCell ⟨w.heap.size, 3, none⟩ (.slice none 0 0)).setCell ⟨w.heap.size, 4, none⟩ (.int .i64 0)).setCell ⟨w.heap.size, 5, none⟩ (.int .i64 0)).setCell ⟨w.heap.size, 6, none⟩ (.slice none 0 0)).setCell ⟨w.heap.size, 7, none⟩ (.slice none 0 0)) = w7 at *
  refine bodyPost_ret (v := .agg #[.int .i64 x, .int .i64 0, .int .i64 0, .slice none 0 0, .int .i64 0, .int .i64 0, .slice none 0 0, .slice none 0 0]) (by simp [e0, e1, e2, e3, e4, e5, e6, e7, results, Tryz.results75, go_sem]) rfl ⟨_, ⟨x, 0, 0, [], 0, 0, [], []⟩, s1, rfl, ?_, ?_, r7, k7, by omega, ?_⟩
  · exact ⟨_, _, _, rfl, RRow.nil _ _ _, IRow.nil _ _ _, IRow.nil _ _ _⟩
  · exact ⟨by simp, by simp, by simp⟩
  · have := HK.out
    exact got_op HX.out.2.2 (fun e => absurd e (by omega)) (fun e => absurd e (by omega)) (fun e => absurd e (by omega))
end Go.Proofs.YtmjliomgkcmjaaaGreat.RecW

/-
  The walks of the program's own readers: Ops, NewReader, read (written by tools/gen/recops.py).
-/
namespace Go.Proofs.YtmjliomgkcmjaaaGreat.RecW
open Go.RowKit Shp IntW WideW CovW ShpW
set_option linter.all false

theorem op_info : (Tryz.prog.info? 51).map (fun i => (i.zero, i.size, i.bytes)) = some (some (.agg #[.int .i64 0, .int .i64 0, .int .i64 0, .slice none 0 0, .int .i64 0, .int .i64 0, .slice none 0 0, .slice none 0 0]), 8, 112) := by kernel_rfl

set_option maxRecDepth 100000 in
set_option maxHeartbeats 4000000 in
theorem gops_any (n : Nat) (s : Byts) (w : World) (h : Rr w n s) (hl : s.length ≤ 100000) :
    Calls Tryz.prog 58 #[.pointer (some ⟨n, 0, none⟩)] w fun e w' => ∃ (v : Value) (l : List OpV) (s' : Byts), e = .returned v ∧ ORow w' w.heap.size w'.heap.size v l ∧ (l.length ≤ 255 ∧ ∀ o ∈ l, SmallO o) ∧ Rr w' n s' ∧ Kr n w w' ∧ s'.length ≤ s.length ∧ Got gOps s l s' := by
  have lw := Blk.lt h
  go_enter Tryz.func58, Tryz.ntmps58
  go_wp2_with fail
  refine (gnum_any n 1 s w (.inl rfl) h hl).mono ?_
  rintro _ w2 ⟨m, s1, rfl, h2, k2, hx, hl2, hg⟩
  have hm : m ≤ 255 := by omega
  have HG := Lib.hid hg
  clear hg hx
  go_wp2_with fail
  go_loopw [3, 6] (fun v i W => ∃ (k : Nat) (l : List OpV) (t : Byts), k ≤ m ∧ i = .int .i64 k ∧ l.length = k ∧ Hid (∀ o ∈ l, SmallO o) ∧ ORow W w.heap.size W.heap.size v l ∧ Rr W n t ∧ Kr n w W ∧ t.length ≤ s1.length ∧ Hid (Got (gMany gOp k) s1 l t)) (fun v i _ => m - (intOf i).toNat)
  case atStart => exact ⟨0, [], s1, Nat.zero_le _, rfl, rfl, Lib.hid (by simp), ORow.nil _ _ _, h2, k2, Nat.le_refl _, Lib.hid (Got.many0 _ _)⟩
  case round =>
    obtain ⟨k, l, t, hk, rfl, hlk, HALL, hP, hR, hK, ht, HM⟩ := hrel
    by_cases hlt : k < m
    · have HLK := Lib.hid hlk
      obtain ⟨us, hP, hS⟩ := hP
      rw [hlk] at hP
      clear hlk
      obtain ⟨A3, c3, rfl⟩ := row_slice hP.1
      have HP := Lib.hid hP
      have HS := Lib.hid hS
      clear hP hS
      go_wp2_with fail
      refine (gop_any n t wr hR (by omega)).mono ?_
      rintro _ w3 ⟨_, o, t2, rfl, ⟨rv, v1, v2, rfl, hr0, hr1, hr2⟩, hsm, h3, k3, hl3, hg3⟩
      have HG3 := Lib.hid hg3
      have HSM := Lib.hid hsm
      clear hg3 hsm
      obtain ⟨kind, fid, sh, rs, id, ep, ss, os⟩ := o
      dsimp only at hr0 hr1 hr2 ⊢
      obtain ⟨us0, hr0', hr0s⟩ := hr0
      obtain ⟨A0, c0, e0⟩ := row_slice hr0'.1
      obtain ⟨A1, c1, e1⟩ := row_slice hr1.1
      obtain ⟨A2, c2, e2⟩ := row_slice hr2.1
      obtain ⟨q0, hq0⟩ : ∃ q, rs.length = q := ⟨_, rfl⟩
      obtain ⟨q1, hq1⟩ : ∃ q, ss.length = q := ⟨_, rfl⟩
      obtain ⟨q2, hq2⟩ : ∃ q, os.length = q := ⟨_, rfl⟩
      rw [hq0] at e0
      rw [hq1] at e1
      rw [hq2] at e2
      subst e0 e1 e2
      have HO : Hid (OCell w3 wr.heap.size w3.heap.size #[.int .i64 kind, .int .i64 fid, .int .i64 sh, .slice A0 q0 c0, .int .i64 id, .int .i64 ep, .slice A1 q1 c1, .slice A2 q2 c2].toList 0 ⟨kind, fid, sh, rs, id, ep, ss, os⟩) := Lib.hid ⟨_, _, _, ⟨rfl, rfl, rfl, rfl, rfl, rfl, rfl, rfl⟩, ⟨us0, hr0', hr0s⟩, hr1, hr2⟩
      clear hr0' hr0s hr1 hr2 hq0 hq1 hq2
      have K3 := hK.trans k3
      have hs3 := K3.size
      have hsw := hK.size
      have BL := Lib.hid (Blk.new w3 51 #[.int .i64 kind, .int .i64 fid, .int .i64 sh, .slice A0 q0 c0, .int .i64 id, .int .i64 ep, .slice A1 q1 c1, .slice A2 q2 c2])
      have HP4 := Lib.hid (World.ownsRow.kept (ORw.kept HP.out (Kt.of_kr k3 [51] (.inl lw)) (by simp)).1 (CovW.grown_below (Ba (o := .cells #[.int .i64 kind, .int .i64 fid, .int .i64 sh, .slice A0 q0 c0, .int .i64 id, .int .i64 ep, .slice A1 q1 c1, .slice A2 q2 c2] 51) B0) none) (by cases A3 <;> simp [Value.ownBlock]))
      have K4 := K3.alloc (.cells #[.int .i64 kind, .int .i64 fid, .int .i64 sh, .slice A0 q0 c0, .int .i64 id, .int .i64 ep, .slice A1 q1 c1, .slice A2 q2 c2] 51)
      have h4 : Rr (w3.alloc (.cells #[.int .i64 kind, .int .i64 fid, .int .i64 sh, .slice A0 q0 c0, .int .i64 id, .int .i64 ep, .slice A1 q1 c1, .slice A2 q2 c2] 51)) n t2 := Blk.alloc h3 _
      have HLE := Lib.hid K4.size
      have HI32 : Hid (k ≤ 1000000) := Lib.hid (by omega)
      have HNE : Hid (∀ q, (Value.slice A3 k c3).ownBlock = some q → w.heap.size ≤ q) := Lib.hid (fun q hq => (World.ownsRow.lt HP4.out q hq).1)
      go_wp2_with (at_builtin; refine app1_list (base := w.heap.size) Tryz.underlying27 op_info rfl (by decide) rfl (.tmp 8) (.tmp 11) rfl (by rfl) (by rfl) HP4.out BL.out (by rfl) (fun u hu => by simp at hu; rcases hu with h | h | h | h | h | h | h | h <;> rw [h] <;> rfl) HI32.out (by decide) HLE.out ?_; intro v2 x3 R3 F3; obtain ⟨A4, c4, rfl⟩ := row_slice R3; have HR3 := Lib.hid R3; have HF3 := Lib.hid F3; clear R3 F3)
      have hR5 : Rr x3 n t2 := Blk.grown h4 HF3.out.1 (fun e => by have := HNE.out n e.symm; omega)
      have hK5 : Kr n w x3 := K4.grown HF3.out.1 HNE.out
      have hs5 : w3.heap.size ≤ x3.heap.size := by have := HF3.out.1.size; rw [alloc_size] at this; omega
      have KT : Kt opIn w.heap.size w3.heap.size w3 x3 := Kt.trans (Kt.of_below (Ba (o := .cells #[.int .i64 kind, .int .i64 fid, .int .i64 sh, .slice A0 q0 c0, .int .i64 id, .int .i64 ep, .slice A1 q1 c1, .slice A2 q2 c2] 51) B0) _ (Nat.le_refl _)) (Kt.of_frm HF3.out HP4.out (by decide))
      have hP5 : ORow x3 w.heap.size x3.heap.size (.slice A4 (k + 1) c4) (l ++ [⟨kind, fid, sh, rs, id, ep, ss, os⟩]) := by
        refine ORow.push (us := us) (cs := #[.int .i64 kind, .int .i64 fid, .int .i64 sh, .slice A0 q0 c0, .int .i64 id, .int .i64 ep, .slice A1 q1 c1, .slice A2 q2 c2].toList) (hi := w3.heap.size) (by rw [HLK.out]; exact HR3.out) (fun j hj => ?_) ((HO.out.less (by omega)).kept KT (by simp [opIn])) (by have := HP.out.1.1; rw [HLK.out]; omega) rfl hs5
        exact (((HS.out j hj).kept (Kt.of_kr k3 opIn (.inl lw)) (by simp [opIn])).more k3.size).kept KT (by simp [opIn])
      exact ⟨⟨k + 1, _, t2, by omega, by simp only [Int.natCast_add, Int.cast_ofNat_Int], by rw [List.length_append, HLK.out, List.length_singleton], Lib.hid (fun o ho => (List.mem_append.1 ho).elim (HALL.out o) (fun e => by rw [List.mem_singleton.1 e]; exact HSM.out)), hP5, hR5, hK5, by omega, Lib.hid (HM.out.many HG3.out)⟩, by simp [intOf]; omega⟩
    · obtain rfl : k = m := by omega
      go_wp2_with fail
      refine bodyPost_ret (v := u3) (by simp [results, Tryz.results58, go_sem]) rfl ⟨u3, l, t, rfl, hP, ⟨by omega, HALL.out⟩, hR, hK, by omega, got_ops HG.out HM.out⟩

set_option maxHeartbeats 1000000 in
theorem newReader_any (s : Byts) (w : World) :
    Calls Tryz.prog 53 #[strV s] w fun e w' => e = .returned (.pointer (some ⟨w.heap.size, 0, none⟩)) ∧ w' = w.alloc (.cells #[strV s] 104) := by
  unfold strV
  go_enter Tryz.func53, Tryz.ntmps53
  go_wp2_with fail
  exact bodyPost_ret (v := .pointer (some ⟨w.heap.size, 0, none⟩)) (by simp [results, Tryz.results53, go_sem]) rfl ⟨rfl, rfl⟩
end Go.Proofs.YtmjliomgkcmjaaaGreat.RecW
