/-
  The walk of the laws' own SameRecord (written by tools/gen/samerec.py).
-/
import Derived.Test.YtmjliomgkcmjaaaRecSame
namespace Go.Proofs.Ytmjliomgkcmjaaa.RecW
open Go.RowKit Shp IntW WideW CovW ShpW
set_option linter.all false

theorem rec_ext {a b : RecV} : a = b ↔ a.kind = b.kind ∧ (a.node = b.node ∧ a.sq = b.sq) ∧ a.base = b.base ∧ a.commit = b.commit ∧ (a.ep = b.ep ∧ a.ss = b.ss ∧ a.os = b.os) ∧ a.ops = b.ops := by
  constructor
  · rintro rfl; simp
  · obtain ⟨a1, a2, a3, a4, a5, a6, a7, a8, a9⟩ := a
    obtain ⟨b1, b2, b3, b4, b5, b6, b7, b8, b9⟩ := b
    rintro ⟨h1, ⟨h2, h3⟩, h4, h5, ⟨h6, h7, h8⟩, h9⟩
    dsimp only at *
    subst h1 h2 h3 h4 h5 h6 h7 h8 h9
    rfl
set_option maxRecDepth 100000 in
set_option maxHeartbeats 4000000 in
theorem sameR_any (v v' : Value) (x y : RecV) (r : Bool) (w : World) (hv : RdRec w w.heap.size v x) (hv' : RdRec w w.heap.size v' y) (hr : r = true ↔ x = y) :
    Calls Try.prog 9 #[v, v'] w fun e w' => e = .returned (.bool r) ∧ Below w.heap.size w w' := by
  rw [rec_ext] at hr
  obtain ⟨v1, v2, vo, rfl, h1, h2, h3⟩ := hv
  obtain ⟨v1', v2', vo', rfl, h1', h2', h3'⟩ := hv'
  obtain ⟨A1, c1, rfl⟩ := rdi_form h1
  obtain ⟨A2, c2, rfl⟩ := rdi_form h2
  obtain ⟨A3, c3, rfl⟩ := h3.form
  obtain ⟨A1', c1', rfl⟩ := rdi_form h1'
  obtain ⟨A2', c2', rfl⟩ := rdi_form h2'
  obtain ⟨A3', c3', rfl⟩ := h3'.form
  obtain ⟨kind, node, sq, base, commit, ep, ss, os, ops⟩ := x
  obtain ⟨kind', node', sq', base', commit', ep', ss', os', ops'⟩ := y
  dsimp only at *
  obtain ⟨rM, HM⟩ := has_bool (ep = ep' ∧ ss = ss' ∧ os = os')
  obtain ⟨rO, HO⟩ := has_bool (ops = ops')
  have NO : Hid (¬ (kind = kind' ∧ (node = node' ∧ sq = sq') ∧ base = base' ∧ commit = commit' ∧ rM = true) → r = false) := Lib.hid (fun h => by
    cases r
    · rfl
    · obtain ⟨k1, k2, k3, k4, k5, k6⟩ := hr.1 rfl
      exact absurd ⟨k1, k2, k3, k4, HM.out.2 k5⟩ h)
  have YES : Hid ((kind = kind' ∧ (node = node' ∧ sq = sq') ∧ base = base' ∧ commit = commit' ∧ rM = true) → rO = r) := Lib.hid (fun h => by
    rw [Bool.eq_iff_iff, HO.out, hr]
    exact ⟨fun k => ⟨h.1, h.2.1, h.2.2.1, h.2.2.2.1, HM.out.1 h.2.2.2.2, k⟩, fun k => k.2.2.2.2.2⟩)
  clear hr
  generalize hn1 : ss.length = n1 at *
  generalize hn2 : os.length = n2 at *
  generalize hn3 : ops.length = n3 at *
  generalize hn1' : ss'.length = n1' at *
  generalize hn2' : os'.length = n2' at *
  generalize hn3' : ops'.length = n3' at *
  clear hn1 hn2 hn3 hn1' hn2' hn3'
  have b1 := Blk.alloc (Blk.new w 38 #[.int .i64 kind, .int .i64 node, .int .i64 sq, .int .i64 base, .bool commit, .int .i64 ep, .slice A1 n1 c1, .slice A2 n2 c2, .slice A3 n3 c3]) (.cells #[.int .i64 kind', .int .i64 node', .int .i64 sq', .int .i64 base', .bool commit', .int .i64 ep', .slice A1' n1' c1', .slice A2' n2' c2', .slice A3' n3' c3'] 38)
  have a1 := Blk.new' (w.alloc (.cells #[.int .i64 kind, .int .i64 node, .int .i64 sq, .int .i64 base, .bool commit, .int .i64 ep, .slice A1 n1 c1, .slice A2 n2 c2, .slice A3 n3 c3] 38)) 38 #[.int .i64 kind', .int .i64 node', .int .i64 sq', .int .i64 base', .bool commit', .int .i64 ep', .slice A1' n1' c1', .slice A2' n2' c2', .slice A3' n3' c3'] (g := w.heap.size + 1) (by simp)
  have B1 : Below w.heap.size w ((w.alloc (.cells #[.int .i64 kind, .int .i64 node, .int .i64 sq, .int .i64 base, .bool commit, .int .i64 ep, .slice A1 n1 c1, .slice A2 n2 c2, .slice A3 n3 c3] 38)).alloc (.cells #[.int .i64 kind', .int .i64 node', .int .i64 sq', .int .i64 base', .bool commit', .int .i64 ep', .slice A1' n1' c1', .slice A2' n2' c2', .slice A3' n3' c3'] 38)) := Ba (Ba B0)
  have s1 := h1.on B1
  have o1 := h2.on B1
  have p1 := h3.on B1
  have s1' := h1'.on B1
  have o1' := h2'.on B1
  have p1' := h3'.on B1
  clear h1 h2 h3 h1' h2' h3'
  go_enter Try.func9, Try.ntmps9
  go_upto_region 1 with fail
  generalize (w.alloc (.cells #[.int .i64 kind, .int .i64 node, .int .i64 sq, .int .i64 base, .bool commit, .int .i64 ep, .slice A1 n1 c1, .slice A2 n2 c2, .slice A3 n3 c3] 38)).alloc (.cells #[.int .i64 kind', .int .i64 node', .int .i64 sq', .int .i64 base', .bool commit', .int .i64 ep', .slice A1' n1' c1', .slice A2' n2' c2', .slice A3' n3' c3'] 38) = w1 at *
  have d0 := b1.cell 0
  have d1 := b1.cell 1
  have d2 := b1.cell 2
  have d3 := b1.cell 3
  have d4 := b1.cell 4
  have d5 := b1.cell 5
  have d6 := b1.cell 6
  have d7 := b1.cell 7
  have d8 := b1.cell 8
  simp at d0 d1 d2 d3 d4 d5 d6 d7 d8
  have e0 := a1.cell 0
  have e1 := a1.cell 1
  have e2 := a1.cell 2
  have e3 := a1.cell 3
  have e4 := a1.cell 4
  have e5 := a1.cell 5
  have e6 := a1.cell 6
  have e7 := a1.cell 7
  have e8 := a1.cell 8
  simp at e0 e1 e2 e3 e4 e5 e6 e7 e8
  by_cases g0 : kind = kind'
  case neg =>
    have x0 : (kind == kind') = false := by simpa using g0
    have HN := Lib.hid (NO.out (fun h => g0 h.1))
    clear g0 NO YES
    go_wp2_with fail
    go_ret
    exact ⟨ret_bool HN.out.symm, B1⟩
  subst g0
  by_cases g1 : node = node'
  case neg =>
    have x1 : (node == node') = false := by simpa using g1
    have HN := Lib.hid (NO.out (fun h => g1 h.2.1.1))
    clear g1 NO YES
    go_wp2_with fail
    all_goals first | (go_ret; exact ⟨ret_bool HN.out.symm, B1⟩) | (exfalso; simp_all)
  subst g1
  by_cases g2 : sq = sq'
  case neg =>
    have x2 : (sq == sq') = false := by simpa using g2
    have HN := Lib.hid (NO.out (fun h => g2 h.2.1.2))
    clear g2 NO YES
    go_wp2_with fail
    all_goals first | (go_ret; exact ⟨ret_bool HN.out.symm, B1⟩) | (exfalso; simp_all)
  subst g2
  by_cases g3 : base = base'
  case neg =>
    have x3 : (base == base') = false := by simpa using g3
    have HN := Lib.hid (NO.out (fun h => g3 h.2.2.1))
    clear g3 NO YES
    go_wp2_with fail
    go_ret
    exact ⟨ret_bool HN.out.symm, B1⟩
  subst g3
  by_cases g4 : commit = commit'
  case neg =>
    have x4 : (commit == commit') = false := by simpa using g4
    have HN := Lib.hid (NO.out (fun h => g4 h.2.2.2.1))
    clear g4 NO YES
    go_wp2_with fail
    all_goals first | (go_ret; exact ⟨ret_bool HN.out.symm, B1⟩) | (exfalso; simp_all)
  subst g4
  have HNO := Lib.hid (fun h : rM = false => NO.out (by rw [h]; simp))
  have HYES := Lib.hid (fun h : rM = true => YES.out ⟨rfl, ⟨rfl, rfl⟩, rfl, rfl, h⟩)
  clear NO YES
  go_wp2_with fail
  refine (sameM_any ep ep' _ _ _ _ ss os ss' os' rM _ s1 o1 s1' o1' HM.out).mono ?_
  rintro _ w2 ⟨rfl, hb⟩
  have b2 := b1.keep hb
  have a2 := a1.keep hb
  have p2 := p1.on hb
  have p2' := p1'.on hb
  have B2 := Bt B1 hb
  clear b1 a1 p1 p1' s1 o1 s1' o1' hb B1 d0 d1 d2 d3 d4 d5 d6 d7 d8 e0 e1 e2 e3 e4 e5 e6 e7 e8
  have HNO2 := Lib.hid (show rM = false → r = false from HNO.out)
  have HYES2 := Lib.hid (show rM = true → rO = r from HYES.out)
  clear HNO HYES
  have d0 := b2.cell 0
  have d1 := b2.cell 1
  have d2 := b2.cell 2
  have d3 := b2.cell 3
  have d4 := b2.cell 4
  have d5 := b2.cell 5
  have d6 := b2.cell 6
  have d7 := b2.cell 7
  have d8 := b2.cell 8
  simp at d0 d1 d2 d3 d4 d5 d6 d7 d8
  have e0 := a2.cell 0
  have e1 := a2.cell 1
  have e2 := a2.cell 2
  have e3 := a2.cell 3
  have e4 := a2.cell 4
  have e5 := a2.cell 5
  have e6 := a2.cell 6
  have e7 := a2.cell 7
  have e8 := a2.cell 8
  simp at e0 e1 e2 e3 e4 e5 e6 e7 e8
  cases rM
  case false =>
    have HN : Hid (r = false) := Lib.hid (by have := HNO2.out; simpa using this)
    go_wp2_with fail
    go_ret
    exact ⟨ret_bool HN.out.symm, B2⟩
  have HY : Hid (rO = r) := Lib.hid (by have := HYES2.out; simpa using this)
  go_wp2_with fail
  refine (sameO_any _ _ ops ops' rO _ p2 p2' HO.out).mono ?_
  rintro _ w3 ⟨rfl, hb3⟩
  have B3 := Bt B2 hb3
  go_wp2_with fail
  go_ret
  exact ⟨ret_bool HY.out, B3⟩
end Go.Proofs.Ytmjliomgkcmjaaa.RecW
