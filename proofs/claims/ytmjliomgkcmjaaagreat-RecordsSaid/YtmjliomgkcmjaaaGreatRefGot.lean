import Derived.Test.YtmjliomgkcmjaaaGreatRecSame
import Derived.Test.YtmjliomgkcmjaaaGreatRecSpoil
import Derived.Test.YtmjliomgkcmjaaaGreatHilbBits
/-
  The walk of the laws' own SameRecord (written by tools/gen/samerec.py).
-/
namespace Go.Proofs.YtmjliomgkcmjaaaGreat.RecW
open Go.RowKit Shp IntW WideW CovW ShpW
set_option linter.all false

theorem rec_ext {a b : RecV} : a = b ↔ a.kind = b.kind ∧ (a.node = b.node ∧ a.sq = b.sq) ∧ a.base = b.base ∧ a.commit = b.commit ∧ (a.ep = b.ep ∧ a.ss = b.ss ∧ a.os = b.os) ∧ a.ops = b.ops := by
  constructor
  · rintro rfl; simp
  · obtain ⟨a1, a2, a3, a4, a5, a6, a7, a8, a9⟩ := a
    obtain ⟨b1, b2, b3, b4, b5, b6, b7, b8, b9⟩ := b
    rintro ⟨h1, ⟨h2, h3⟩, h4, h5, ⟨h6, h7, h8⟩, h9⟩
    dsimp only at *
    subst h1 h2 h3 h4 h5 h6 h7 h8 h9
    rfl
set_option maxRecDepth 100000 in
set_option maxHeartbeats 4000000 in
theorem sameR_any (v v' : Value) (x y : RecV) (r : Bool) (w : World) (hv : RdRec w w.heap.size v x) (hv' : RdRec w w.heap.size v' y) (hr : r = true ↔ x = y) :
    Calls Tryz.prog 11 #[v, v'] w fun e w' => e = .returned (.bool r) ∧ Below w.heap.size w w' := by
  rw [rec_ext] at hr
  obtain ⟨v1, v2, vo, rfl, h1, h2, h3⟩ := hv
  obtain ⟨v1', v2', vo', rfl, h1', h2', h3'⟩ := hv'
  obtain ⟨A1, c1, rfl⟩ := rdi_form h1
  obtain ⟨A2, c2, rfl⟩ := rdi_form h2
  obtain ⟨A3, c3, rfl⟩ := h3.form
  obtain ⟨A1', c1', rfl⟩ := rdi_form h1'
  obtain ⟨A2', c2', rfl⟩ := rdi_form h2'
  obtain ⟨A3', c3', rfl⟩ := h3'.form
  obtain ⟨kind, node, sq, base, commit, ep, ss, os, ops⟩ := x
  obtain ⟨kind', node', sq', base', commit', ep', ss', os', ops'⟩ := y
  dsimp only at *
  obtain ⟨rM, HM⟩ := has_bool (ep = ep' ∧ ss = ss' ∧ os = os')
  obtain ⟨rO, HO⟩ := has_bool (ops = ops')
  have NO : Hid (¬ (kind = kind' ∧ (node = node' ∧ sq = sq') ∧ base = base' ∧ commit = commit' ∧ rM = true) → r = false) := Lib.hid (fun h => by
    cases r
    · rfl
    · obtain ⟨k1, k2, k3, k4, k5, k6⟩ := hr.1 rfl
      exact absurd ⟨k1, k2, k3, k4, HM.out.2 k5⟩ h)
  have YES : Hid ((kind = kind' ∧ (node = node' ∧ sq = sq') ∧ base = base' ∧ commit = commit' ∧ rM = true) → rO = r) := Lib.hid (fun h => by
    rw [Bool.eq_iff_iff, HO.out, hr]
    exact ⟨fun k => ⟨h.1, h.2.1, h.2.2.1, h.2.2.2.1, HM.out.1 h.2.2.2.2, k⟩, fun k => k.2.2.2.2.2⟩)
  clear hr
  generalize hn1 : ss.length = n1 at *
  generalize hn2 : os.length = n2 at *
  generalize hn3 : ops.length = n3 at *
  generalize hn1' : ss'.length = n1' at *
  generalize hn2' : os'.length = n2' at *
  generalize hn3' : ops'.length = n3' at *
  clear hn1 hn2 hn3 hn1' hn2' hn3'
  have b1 := Blk.alloc (Blk.new w 29 #[.int .i64 kind, .int .i64 node, .int .i64 sq, .int .i64 base, .bool commit, .int .i64 ep, .slice A1 n1 c1, .slice A2 n2 c2, .slice A3 n3 c3]) (.cells #[.int .i64 kind', .int .i64 node', .int .i64 sq', .int .i64 base', .bool commit', .int .i64 ep', .slice A1' n1' c1', .slice A2' n2' c2', .slice A3' n3' c3'] 29)
  have a1 := Blk.new' (w.alloc (.cells #[.int .i64 kind, .int .i64 node, .int .i64 sq, .int .i64 base, .bool commit, .int .i64 ep, .slice A1 n1 c1, .slice A2 n2 c2, .slice A3 n3 c3] 29)) 29 #[.int .i64 kind', .int .i64 node', .int .i64 sq', .int .i64 base', .bool commit', .int .i64 ep', .slice A1' n1' c1', .slice A2' n2' c2', .slice A3' n3' c3'] (g := w.heap.size + 1) (by simp)
  have B1 : Below w.heap.size w ((w.alloc (.cells #[.int .i64 kind, .int .i64 node, .int .i64 sq, .int .i64 base, .bool commit, .int .i64 ep, .slice A1 n1 c1, .slice A2 n2 c2, .slice A3 n3 c3] 29)).alloc (.cells #[.int .i64 kind', .int .i64 node', .int .i64 sq', .int .i64 base', .bool commit', .int .i64 ep', .slice A1' n1' c1', .slice A2' n2' c2', .slice A3' n3' c3'] 29)) := Ba (Ba B0)
  have s1 := h1.on B1
  have o1 := h2.on B1
  have p1 := h3.on B1
  have s1' := h1'.on B1
  have o1' := h2'.on B1
  have p1' := h3'.on B1
  clear h1 h2 h3 h1' h2' h3'
  go_enter Tryz.func11, Tryz.ntmps11
  go_upto_region 1 with fail
  generalize (w.alloc (.cells #[.int .i64 kind, .int .i64 node, .int .i64 sq, .int .i64 base, .bool commit, .int .i64 ep, .slice A1 n1 c1, .slice A2 n2 c2, .slice A3 n3 c3] 29)).alloc (.cells #[.int .i64 kind', .int .i64 node', .int .i64 sq', .int .i64 base', .bool commit', .int .i64 ep', .slice A1' n1' c1', .slice A2' n2' c2', .slice A3' n3' c3'] 29) = w1 at *
  have d0 := b1.cell 0
  have d1 := b1.cell 1
  have d2 := b1.cell 2
  have d3 := b1.cell 3
  have d4 := b1.cell 4
  have d5 := b1.cell 5
  have d6 := b1.cell 6
  have d7 := b1.cell 7
  have d8 := b1.cell 8
  simp at d0 d1 d2 d3 d4 d5 d6 d7 d8
  have e0 := a1.cell 0
  have e1 := a1.cell 1
  have e2 := a1.cell 2
  have e3 := a1.cell 3
  have e4 := a1.cell 4
  have e5 := a1.cell 5
  have e6 := a1.cell 6
  have e7 := a1.cell 7
  have e8 := a1.cell 8
  simp at e0 e1 e2 e3 e4 e5 e6 e7 e8
  by_cases g0 : kind = kind'
  case neg =>
    have x0 : (kind == kind') = false := by simpa using g0
    have HN := Lib.hid (NO.out (fun h => g0 h.1))
    clear g0 NO YES
    go_wp2_with fail
    go_ret
    exact ⟨ret_bool HN.out.symm, B1⟩
  subst g0
  by_cases g1 : node = node'
  case neg =>
    have x1 : (node == node') = false := by simpa using g1
    have HN := Lib.hid (NO.out (fun h => g1 h.2.1.1))
    clear g1 NO YES
    go_wp2_with fail
    all_goals first | (go_ret; exact ⟨ret_bool HN.out.symm, B1⟩) | (exfalso; simp_all)
  subst g1
  by_cases g2 : sq = sq'
  case neg =>
    have x2 : (sq == sq') = false := by simpa using g2
    have HN := Lib.hid (NO.out (fun h => g2 h.2.1.2))
    clear g2 NO YES
    go_wp2_with fail
    all_goals first | (go_ret; exact ⟨ret_bool HN.out.symm, B1⟩) | (exfalso; simp_all)
  subst g2
  by_cases g3 : base = base'
  case neg =>
    have x3 : (base == base') = false := by simpa using g3
    have HN := Lib.hid (NO.out (fun h => g3 h.2.2.1))
    clear g3 NO YES
    go_wp2_with fail
    go_ret
    exact ⟨ret_bool HN.out.symm, B1⟩
  subst g3
  by_cases g4 : commit = commit'
  case neg =>
    have x4 : (commit == commit') = false := by simpa using g4
    have HN := Lib.hid (NO.out (fun h => g4 h.2.2.2.1))
    clear g4 NO YES
    go_wp2_with fail
    all_goals first | (go_ret; exact ⟨ret_bool HN.out.symm, B1⟩) | (exfalso; simp_all)
  subst g4
  have HNO := Lib.hid (fun h : rM = false => NO.out (by rw [h]; simp))
  have HYES := Lib.hid (fun h : rM = true => YES.out ⟨rfl, ⟨rfl, rfl⟩, rfl, rfl, h⟩)
  clear NO YES
  go_wp2_with fail
  refine (sameM_any ep ep' _ _ _ _ ss os ss' os' rM _ s1 o1 s1' o1' HM.out).mono ?_
  rintro _ w2 ⟨rfl, hb⟩
  have b2 := b1.keep hb
  have a2 := a1.keep hb
  have p2 := p1.on hb
  have p2' := p1'.on hb
  have B2 := Bt B1 hb
  clear b1 a1 p1 p1' s1 o1 s1' o1' hb B1 d0 d1 d2 d3 d4 d5 d6 d7 d8 e0 e1 e2 e3 e4 e5 e6 e7 e8
  have HNO2 := Lib.hid (show rM = false → r = false from HNO.out)
  have HYES2 := Lib.hid (show rM = true → rO = r from HYES.out)
  clear HNO HYES
  have d0 := b2.cell 0
  have d1 := b2.cell 1
  have d2 := b2.cell 2
  have d3 := b2.cell 3
  have d4 := b2.cell 4
  have d5 := b2.cell 5
  have d6 := b2.cell 6
  have d7 := b2.cell 7
  have d8 := b2.cell 8
  simp at d0 d1 d2 d3 d4 d5 d6 d7 d8
  have e0 := a2.cell 0
  have e1 := a2.cell 1
  have e2 := a2.cell 2
  have e3 := a2.cell 3
  have e4 := a2.cell 4
  have e5 := a2.cell 5
  have e6 := a2.cell 6
  have e7 := a2.cell 7
  have e8 := a2.cell 8
  simp at e0 e1 e2 e3 e4 e5 e6 e7 e8
  cases rM
  case false =>
    have HN : Hid (r = false) := Lib.hid (by have := HNO2.out; simpa using this)
    go_wp2_with fail
    go_ret
    exact ⟨ret_bool HN.out.symm, B2⟩
  have HY : Hid (rO = r) := Lib.hid (by have := HYES2.out; simpa using this)
  go_wp2_with fail
  refine (sameO_any _ _ ops ops' rO _ p2 p2' HO.out).mono ?_
  rintro _ w3 ⟨rfl, hb3⟩
  have B3 := Bt B2 hb3
  go_wp2_with fail
  go_ret
  exact ⟨ret_bool HY.out, B3⟩
end Go.Proofs.YtmjliomgkcmjaaaGreat.RecW

/-
  The walk of layer 11's own awake.
-/
namespace Go.Proofs.YtmjliomgkcmjaaaGreat.RecW
open Go.RowKit Shp IntW WideW CovW ShpW
set_option linter.all false

theorem may_point (f x y : Int) (hf : 1 ≤ f ∧ f ≤ 65535) (hp : Geom.Pt x y) : Shp.May f 0 [[(x, y)]] := by
  refine ⟨hf.1, hf.2, ⟨by simp, by simp [bds], by simp [bds]⟩, ?_, ?_⟩
  · intro p h
    simp at h
    subst h
    exact hp
  · intro s h
    simp [segs, ringSg, cnt] at h
def awR : RecV := ⟨2, 1, 258, -1, false, 0, [], [], [⟨1, 0, 0, [], 3, 0, [], []⟩, ⟨0, 5, 0, [[(6, 7)]], 0, 0, [], []⟩]⟩
def awS : Byts := [2, 1, 1, 2, 0, 0, 0, 0, 2, 1, 0, 3, 0, 0, 5, 0, 1, 1, 0, 0, 0, 6, 0, 0, 0, 7]
def awR2 : RecV := ⟨3, 0, 1, 0, true, 0, [], [], []⟩
def awS2 : Byts := [3, 0, 0, 1, 1]
def awR3 : RecV := ⟨4, 0, 0, 0, false, 0, [], [], []⟩
theorem awR_may : RMay awR := by
  refine .inr (.inl ⟨.inr rfl, ⟨by decide, by decide⟩, ⟨by decide, by decide⟩, ?_, rfl, rfl, rfl, rfl⟩)
  refine ⟨by simp [awR], ?_, ?_, by simp [awR, idsOf]⟩
  · intro o ho
    simp [awR] at ho
    rcases ho with rfl | rfl
    · exact .inr (.inl ⟨rfl, by decide, ⟨rfl, rfl, rfl⟩, rfl, rfl, rfl⟩)
    · refine .inl ⟨rfl, ?_, rfl, rfl, rfl, rfl⟩
      exact may_point 5 6 7 (by decide) ⟨by decide, by decide, by decide, by decide⟩
  · intro o ho
    simp [awR] at ho
    subst ho
    simp
theorem awS_is : putRec awR = awS := by decide
theorem awS2_is : putRec awR2 = awS2 := by decide
theorem awR2_may : RMay awR2 := .inr (.inr (.inl ⟨rfl, ⟨by decide, by decide⟩, ⟨rfl, rfl, rfl⟩, rfl, rfl⟩))
theorem aw1 : PutOut awR awS 0 := .inl ⟨awR_may, by rw [awS_is]; decide, awS_is.symm, rfl⟩
theorem aw2 : PutOut awR2 awS2 0 := .inl ⟨awR2_may, by rw [awS2_is]; decide, awS2_is.symm, rfl⟩
theorem aw3 : PutOut awR3 [] 1100 := .inr ⟨fun h => by
  rcases h.1 with h | h | h | h
  · simp [awR3] at h
  · simp [awR3] at h
  · simp [awR3] at h
  · have := h.2.1.2.1; simp [awR3] at this, rfl, rfl⟩
theorem aw4 : GetOut awS awR 0 := .inl ⟨awR_may, awS_is, by decide, rfl⟩
theorem put_pos (r : RecV) : 0 < (putRec r).length := by
  unfold putRec
  rw [List.length_append, be_len]
  omega
theorem aw5 : GetOut [] rec0 1100 := .inr ⟨fun ⟨x, h1, h2, h3⟩ => by have := put_pos x; rw [h2] at this; simp at this, rfl, rfl⟩

theorem aw_ops {w : World} {g0 g1 g2 : Nat} {t0 t1 t2 : TypeId} (b0 : Blk w g0 t0 #[.int .i64 6, .int .i64 7]) (b1 : Blk w g1 t1 #[.slice (some ⟨g0, 0, none⟩) 1 1]) (b2 : Blk w g2 t2 #[.int .i64 1, .int .i64 0, .int .i64 0, .slice none 0 0, .int .i64 3, .int .i64 0, .slice none 0 0, .slice none 0 0, .int .i64 0, .int .i64 5, .int .i64 0, .slice (some ⟨g1, 0, none⟩) 1 1, .int .i64 0, .int .i64 0, .slice none 0 0, .slice none 0 0]) :
    RdOs w w.heap.size (.slice (some ⟨g2, 0, none⟩) 2 2) awR.ops := by
  have hp : RdP w w.heap.size (.slice (some ⟨g0, 0, none⟩) 1 1) [(6, 7)] := by
    refine ⟨_, _, rfl, by simp, fun _ => ⟨_, _, rfl, b0.lt, fun j hj => ?_⟩⟩
    obtain rfl : j = 0 := by simpa using hj
    exact ⟨b0.cell 0, b0.cell 1⟩
  have hr : RdR w w.heap.size (.slice (some ⟨g1, 0, none⟩) 1 1) [[(6, 7)]] := rdr_one 1 b1.lt (b1.cell 0) hp
  refine ⟨_, _, rfl, ⟨by simp [awR], by simp [awR]⟩, fun _ => ⟨_, _, rfl, b2.lt, fun j hj => ?_⟩⟩
  have hj' : j < 2 := by simpa [awR] using hj
  match j, hj' with
  | 0, _ => exact ⟨_, _, _, ⟨b2.cell 0, b2.cell 1, b2.cell 2, b2.cell 3, b2.cell 4, b2.cell 5, b2.cell 6, b2.cell 7⟩, rdr_nil _ _ _ _, RdI.nil _ _ _ _, RdI.nil _ _ _ _⟩
  | 1, _ => exact ⟨_, _, _, ⟨b2.cell 8, b2.cell 9, b2.cell 10, b2.cell 11, b2.cell 12, b2.cell 13, b2.cell 14, b2.cell 15⟩, hr, RdI.nil _ _ _ _, RdI.nil _ _ _ _⟩
theorem aw_rec (w : World) (k n s b : Int) (c : Bool) : RdRec w w.heap.size (.agg #[.int .i64 k, .int .i64 n, .int .i64 s, .int .i64 b, .bool c, .int .i64 0, .slice none 0 0, .slice none 0 0, .slice none 0 0]) ⟨k, n, s, b, c, 0, [], [], []⟩ :=
  ⟨_, _, _, rfl, RdI.nil _ _ _ _, RdI.nil _ _ _ _, RdOs.nil _ _ _ _⟩

set_option maxRecDepth 100000 in
set_option maxHeartbeats 4000000 in
theorem awake_any (w : World) :
    Calls Tryz.prog 14 #[] w fun e w' => e = .returned (.bool true) ∧ Below w.heap.size w w' := by
  obtain ⟨S, hS⟩ : ∃ S, awS = S := ⟨_, rfl⟩
  obtain ⟨S2, hS2⟩ : ∃ S, awS2 = S := ⟨_, rfl⟩
  have p1 := aw1
  have p2 := aw2
  have p4 := aw4
  rw [hS] at p1 p4
  rw [hS2] at p2
  have P1 := Lib.hid p1
  have P2 := Lib.hid p2
  have P4 := Lib.hid p4
  have HSS := Lib.hid (And.intro hS hS2)
  have hls : Hid (S.length ≤ 100000) := Lib.hid (by rw [← hS]; decide)
  have E1 : (S == [2, 1, 1, 2, 0, 0, 0, 0, 2, 1, 0, 3, 0, 0, 5, 0, 1, 1, 0, 0, 0, 6, 0, 0, 0, 7]) = true := by rw [← hS]; rfl
  have E2 : (S2 == [3, 0, 0, 1, 1]) = true := by rw [← hS2]; rfl
  clear p1 p2 p4 hS hS2
  obtain ⟨g0, h0⟩ : ∃ g, w.heap.size = g := ⟨_, rfl⟩
  obtain ⟨g1, h1⟩ : ∃ g, g0 + 1 = g := ⟨_, rfl⟩
  obtain ⟨g2, h2⟩ : ∃ g, g1 + 1 = g := ⟨_, rfl⟩
  obtain ⟨g3, h3⟩ : ∃ g, g2 + 1 = g := ⟨_, rfl⟩
  obtain ⟨w1, hw⟩ : ∃ w1, (((w.alloc (.cells #[.int .i64 6, .int .i64 7] 74)).alloc (.cells #[.slice (some ⟨g0, 0, none⟩) 1 1] 75)).alloc (.cells #[.int .i64 1, .int .i64 0, .int .i64 0, .slice none 0 0, .int .i64 3, .int .i64 0, .slice none 0 0, .slice none 0 0, .int .i64 0, .int .i64 5, .int .i64 0, .slice (some ⟨g1, 0, none⟩) 1 1, .int .i64 0, .int .i64 0, .slice none 0 0, .slice none 0 0] 51)).alloc (.cells #[.int .i64 2, .int .i64 1, .int .i64 258, .int .i64 (-1), .bool false, .int .i64 0, .slice none 0 0, .slice none 0 0, .slice (some ⟨g2, 0, none⟩) 2 2] 29) = w1 := ⟨_, rfl⟩
  have b0 : Blk w1 g0 74 #[.int .i64 6, .int .i64 7] := by rw [← hw]; exact (((Blk.new' _ _ _ h0.symm).alloc _).alloc _).alloc _
  have b1 : Blk w1 g1 75 #[.slice (some ⟨g0, 0, none⟩) 1 1] := by rw [← hw]; exact ((Blk.new' _ _ _ (by rw [alloc_size]; omega)).alloc _).alloc _
  have b2 : Blk w1 g2 51 #[.int .i64 1, .int .i64 0, .int .i64 0, .slice none 0 0, .int .i64 3, .int .i64 0, .slice none 0 0, .slice none 0 0, .int .i64 0, .int .i64 5, .int .i64 0, .slice (some ⟨g1, 0, none⟩) 1 1, .int .i64 0, .int .i64 0, .slice none 0 0, .slice none 0 0] := by rw [← hw]; exact (Blk.new' _ _ _ (by rw [alloc_size, alloc_size]; omega)).alloc _
  have b3 : Blk w1 g3 29 #[.int .i64 2, .int .i64 1, .int .i64 258, .int .i64 (-1), .bool false, .int .i64 0, .slice none 0 0, .slice none 0 0, .slice (some ⟨g2, 0, none⟩) 2 2] := by rw [← hw]; exact Blk.new' _ _ _ (by rw [alloc_size, alloc_size, alloc_size]; omega)
  have B1 : Below w.heap.size w w1 := by rw [← hw]; exact Ba (Ba (Ba (Ba B0)))
  have HV1 : Hid (RdRec w1 w1.heap.size (.agg #[.int .i64 2, .int .i64 1, .int .i64 258, .int .i64 (-1), .bool false, .int .i64 0, .slice none 0 0, .slice none 0 0, .slice (some ⟨g2, 0, none⟩) 2 2]) awR) := Lib.hid ⟨_, _, _, rfl, RdI.nil _ _ _ _, RdI.nil _ _ _ _, aw_ops b0 b1 b2⟩
  clear b0 b1 b2
  go_enter Tryz.func14, Tryz.ntmps14
  go_upto_region 2 with fail
  clear hw h0 h1 h2 h3
  have d0 := b3.cell 0
  have d1 := b3.cell 1
  have d2 := b3.cell 2
  have d3 := b3.cell 3
  have d4 := b3.cell 4
  have d5 := b3.cell 5
  have d6 := b3.cell 6
  have d7 := b3.cell 7
  have d8 := b3.cell 8
  simp at d0 d1 d2 d3 d4 d5 d6 d7 d8
  have PT := put_any _ awR S 0 w1 HV1.out P1.out
  unfold strV at PT
  go_wp2_with fail
  refine PT.mono ?_
  rintro _ w2 ⟨rfl, hb⟩
  clear PT
  have b3 := b3.keep hb
  have HV2 := Lib.hid (HV1.out.on hb)
  have B2 := Bt B1 hb
  clear hb HV1 B1 d0 d1 d2 d3 d4 d5 d6 d7 d8
  have GT := get_any S w2 (.inl hls.out)
  unfold strV at GT
  go_wp2_with fail
  refine GT.mono ?_
  rintro _ w3 ⟨_, r, e, rfl, ⟨v1, v2, vo, rfl, k1, k2, k3⟩, hsm, hg, hb⟩
  clear GT
  obtain ⟨rfl, rfl⟩ := getOut_uniq hg P4.out
  obtain ⟨A1, c1, e1⟩ := row_slice k1.1
  obtain ⟨A2, c2, e2⟩ := row_slice k2.1
  obtain ⟨A3, c3, e3⟩ : ∃ A c, vo = .slice A awR.ops.length c := by obtain ⟨us, h, -⟩ := k3; exact row_slice h.1
  obtain ⟨n1, hn1⟩ : ∃ n, awR.ss.length = n := ⟨_, rfl⟩
  obtain ⟨n2, hn2⟩ : ∃ n, awR.os.length = n := ⟨_, rfl⟩
  obtain ⟨n3, hn3⟩ : ∃ n, awR.ops.length = n := ⟨_, rfl⟩
  rw [hn1] at e1
  rw [hn2] at e2
  rw [hn3] at e3
  subst e1 e2 e3
  have HX : Hid (RdRec w3 w3.heap.size (.agg #[.int .i64 2, .int .i64 1, .int .i64 258, .int .i64 (-1), .bool false, .int .i64 0, .slice A1 n1 c1, .slice A2 n2 c2, .slice A3 n3 c3]) awR) := Lib.hid (RVal.read ⟨_, _, _, rfl, k1, k2, k3⟩ hsm)
  clear k1 k2 k3 hsm hg hn1 hn2 hn3
  dsimp only [awR]
  have b3 := b3.keep hb
  have HV3 := Lib.hid (HV2.out.on hb)
  have B3 := Bt B2 hb
  obtain ⟨g4, h4⟩ : ∃ g, w3.heap.size = g := ⟨_, rfl⟩
  have b4 := Blk.new w3 29 #[.int .i64 2, .int .i64 1, .int .i64 258, .int .i64 (-1), .bool false, .int .i64 0, .slice A1 n1 c1, .slice A2 n2 c2, .slice A3 n3 c3]
  rw [h4] at b4
  have H4 := Ba (w := w3) (o := .cells #[.int .i64 2, .int .i64 1, .int .i64 258, .int .i64 (-1), .bool false, .int .i64 0, .slice A1 n1 c1, .slice A2 n2 c2, .slice A3 n3 c3] 29) B0
  have b3 := b3.keep H4
  have HV4 := Lib.hid (HV3.out.on H4)
  have HX4 := Lib.hid (HX.out.on H4)
  have B4 := Bt B3 H4
  clear hb HV2 HV3 HX B2 B3 H4
  go_upto_region 4 with fail
  generalize w3.alloc (.cells #[.int .i64 2, .int .i64 1, .int .i64 258, .int .i64 (-1), .bool false, .int .i64 0, .slice A1 n1 c1, .slice A2 n2 c2, .slice A3 n3 c3] 29) = w4 at *
  clear h4
  have PT := put_any _ _ [] 1100 w4 (aw_rec w4 4 0 0 0 false) aw3
  unfold strV at PT
  go_wp2_with fail
  refine PT.mono ?_
  rintro _ w5 ⟨rfl, hb⟩
  clear PT
  have b3 := b3.keep hb
  have b4 := b4.keep hb
  have HV5 := Lib.hid (HV4.out.on hb)
  have HX5 := Lib.hid (HX4.out.on hb)
  have B5 := Bt B4 hb
  clear hb HV4 HX4 B4
  have GT := get_any [] w5 (.inl (by simp))
  unfold strV at GT
  go_wp2_with fail
  refine GT.mono ?_
  rintro _ w6 ⟨_, r, e, rfl, ⟨v1, v2, vo, rfl, k1, k2, k3⟩, hsm, hg, hb⟩
  clear GT
  obtain ⟨rfl, rfl⟩ := getOut_uniq hg aw5
  obtain ⟨A5, c5, rfl⟩ := row_slice k1.1
  obtain ⟨A6, c6, rfl⟩ := row_slice k2.1
  obtain ⟨A7, c7, rfl⟩ : ∃ A c, vo = .slice A rec0.ops.length c := by obtain ⟨us, h, -⟩ := k3; exact row_slice h.1
  dsimp only [rec0, List.length_nil]
  clear k1 k2 k3 hsm hg
  have H6 := Below.trans hb ((Ba (w := w6) (o := .cells #[.int .i64 0, .int .i64 0, .int .i64 0, .int .i64 0, .bool false, .int .i64 0, .slice A5 0 c5, .slice A6 0 c6, .slice A7 0 c7] 29) B0).mono hb.size)
  have b3 := b3.keep H6
  have b4 := b4.keep H6
  have HV6 := Lib.hid (HV5.out.on H6)
  have HX6 := Lib.hid (HX5.out.on H6)
  have B6 := Bt B5 H6
  clear hb H6 HV5 HX5 B5
  go_upto_region 6 with fail
  generalize w6.alloc (.cells #[.int .i64 0, .int .i64 0, .int .i64 0, .int .i64 0, .bool false, .int .i64 0, .slice A5 0 c5, .slice A6 0 c6, .slice A7 0 c7] 29) = w7 at *
  have PT := put_any _ _ S2 0 w7 (aw_rec w7 3 0 1 0 true) P2.out
  unfold strV at PT
  go_wp2_with fail
  refine PT.mono ?_
  rintro _ w8 ⟨rfl, hb⟩
  clear PT
  have b3 := b3.keep hb
  have b4 := b4.keep hb
  have HV8 := Lib.hid (HV6.out.on hb)
  have HX8 := Lib.hid (HX6.out.on hb)
  have B8 := Bt B6 hb
  clear hb HV6 HX6 B6
  have d0 := b3.cell 0
  have d1 := b3.cell 1
  have d2 := b3.cell 2
  have d3 := b3.cell 3
  have d4 := b3.cell 4
  have d5 := b3.cell 5
  have d6 := b3.cell 6
  have d7 := b3.cell 7
  have d8 := b3.cell 8
  simp at d0 d1 d2 d3 d4 d5 d6 d7 d8
  have u0 := b4.cell 0
  have u1 := b4.cell 1
  have u2 := b4.cell 2
  have u3 := b4.cell 3
  have u4 := b4.cell 4
  have u5 := b4.cell 5
  have u6 := b4.cell 6
  have u7 := b4.cell 7
  have u8 := b4.cell 8
  simp at u0 u1 u2 u3 u4 u5 u6 u7 u8
  go_wp2_with fail
  refine (num_any 0 w8).mono ?_
  rintro _ _ ⟨rfl, rfl⟩
  go_wp2_with fail
  refine (sameR_any _ _ awR awR true w8 HX8.out HV8.out (by simp)).mono ?_
  rintro _ w9 ⟨rfl, hb⟩
  have B9 := Bt B8 hb
  clear d0 d1 d2 d3 d4 d5 d6 d7 d8 u0 u1 u2 u3 u4 u5 u6 u7 u8 hb B8 HX8 HV8
  go_wp2_with fail
  refine (num_any 0 w9).mono ?_
  rintro _ _ ⟨rfl, rfl⟩
  go_wp2_with fail
  refine (num_any 1100 w9).mono ?_
  rintro _ _ ⟨rfl, rfl⟩
  go_wp2_with fail
  refine (num_any 1100 w9).mono ?_
  rintro _ _ ⟨rfl, rfl⟩
  go_wp2_with fail
  refine (num_any 0 w9).mono ?_
  rintro _ _ ⟨rfl, rfl⟩
  go_wp2_with fail
  go_ret
  exact ⟨rfl, B9⟩
end Go.Proofs.YtmjliomgkcmjaaaGreat.RecW

/-
  What the document's own reader of bytes got, as against what is there; plain facts.
-/
namespace Go.Proofs.YtmjliomgkcmjaaaGreat.RecW
open Go.RowKit Shp Geom IntW WideW
set_option linter.all false

/-- What was read from place p on is x, and the reader stands at p' and is not bad, if it was not bad and there is what g reads. -/
def Gt {α : Type} (g : Byts → Option (α × Byts)) (S : Byts) (p : Nat) (b : Bool) (x : α) (p' : Nat) (b' : Bool) : Prop := b = false → ∀ q, g (S.drop p) = some q → (x, S.drop p') = q ∧ b' = false
section
variable {α : Type} {g : Byts → Option (α × Byts)} {S : Byts} {p p1 p2 p3 p4 : Nat} {b b1 b2 b3 b4 : Bool}
theorem Gt.val {x y : α} {t : Byts} (h : Gt g S p b x p1 b1) (hb : b = false) (e : g (S.drop p) = some (y, t)) : y = x ∧ t = S.drop p1 ∧ b1 = false := by
  have := h hb _ e
  simp only [Prod.mk.injEq] at this
  exact ⟨this.1.1.symm, this.1.2.symm, this.2⟩
theorem Gt.many0 (g : Byts → Option (α × Byts)) (S : Byts) (p : Nat) (b : Bool) : Gt (gMany g 0) S p b [] p b := by
  intro hb q hq
  simp only [gMany, Option.some.injEq] at hq
  exact ⟨hq, hb⟩
theorem Gt.many {k : Nat} {l : List α} {x : α} (h : Gt (gMany g k) S p b l p1 b1) (h2 : Gt g S p1 b1 x p2 b2) : Gt (gMany g (k + 1)) S p b (l ++ [x]) p2 b2 := by
  intro hb q hq
  simp only [gMany, Option.bind_eq_some_iff, Option.map_eq_some_iff] at hq
  obtain ⟨⟨m, t⟩, e1, ⟨y, t2⟩, e2, rfl⟩ := hq
  obtain ⟨rfl, rfl, hb1⟩ := h.val hb e1
  obtain ⟨rfl, rfl, hb2⟩ := h2.val hb1 e2
  exact ⟨rfl, hb2⟩
theorem many_pre {k : Nat} : ∀ (n : Nat), k ≤ n → ∀ s q, gMany g n s = some q → ∃ q', gMany g k s = some q'
  | 0, h, s, q, hq => by
    obtain rfl : k = 0 := by omega
    exact ⟨q, hq⟩
  | n + 1, h, s, q, hq => by
    by_cases hk : k = n + 1
    · subst hk; exact ⟨q, hq⟩
    · simp only [gMany, Option.bind_eq_some_iff] at hq
      obtain ⟨x, e1, -⟩ := hq
      exact many_pre n (by omega) s x e1
theorem Gt.stop {k n : Nat} {l : List α} (h : Gt (gMany g k) S p b l p1 b1) (hk : k ≤ n) (hs : k = n ∨ b1 = true) : Gt (gMany g n) S p b l p1 b1 := by
  rcases hs with rfl | rfl
  · exact h
  · intro hb q hq
    obtain ⟨q', h'⟩ := many_pre n hk _ _ hq
    have := (h hb q' h').2
    simp at this
end
section
variable {S : Byts} {p p1 p2 p3 p4 p5 : Nat} {b b1 b2 b3 b4 b5 : Bool}
theorem gt_num {K : Nat} {x : Int} (h : (b = false ∧ K ≤ S.length - p ∧ x = num ((S.drop p).take K) ∧ p1 = p + K ∧ b1 = false) ∨ b = true ∨ S.length - p < K) : Gt (gNum K) S p b x p1 b1 := by
  intro hb q hq
  unfold gNum at hq
  rcases h with ⟨-, h1, rfl, rfl, rfl⟩ | h | h
  · rw [if_pos (by simpa using h1)] at hq
    simp only [Option.some.injEq] at hq
    rw [← hq, List.drop_drop]
    exact ⟨rfl, rfl⟩
  · rw [hb] at h; simp at h
  · rw [if_neg (by rw [List.length_drop]; omega)] at hq; simp at hq
theorem gt_pt {x y : Int} (h1 : Gt (gNum 4) S p b x p1 b1) (h2 : Gt (gNum 4) S p1 b1 y p2 b2) : Gt gPt S p b (x, y) p2 b2 := by
  intro hb q hq
  unfold gPt at hq
  simp only [Option.bind_eq_some_iff, Option.map_eq_some_iff] at hq
  obtain ⟨⟨a, t⟩, e1, ⟨c, t2⟩, e2, rfl⟩ := hq
  obtain ⟨rfl, rfl, k1⟩ := h1.val hb e1
  obtain ⟨rfl, rfl, k2⟩ := h2.val k1 e2
  exact ⟨rfl, k2⟩
theorem gt_name {x y : Int} (h1 : Gt (gNum 1) S p b x p1 b1) (h2 : Gt (gNum 2) S p1 b1 y p2 b2) : Gt gName S p b (x, y) p2 b2 := by
  intro hb q hq
  unfold gName at hq
  simp only [Option.bind_eq_some_iff, Option.map_eq_some_iff] at hq
  obtain ⟨⟨a, t⟩, e1, ⟨c, t2⟩, e2, rfl⟩ := hq
  obtain ⟨rfl, rfl, k1⟩ := h1.val hb e1
  obtain ⟨rfl, rfl, k2⟩ := h2.val k1 e2
  exact ⟨rfl, k2⟩
theorem gt_ring {n : Nat} {l : List P2} (h1 : Gt (gNum 1) S p b n p1 b1) (h2 : Gt (gMany gPt n) S p1 b1 l p2 b2) : Gt gRing S p b l p2 b2 := by
  intro hb q hq
  unfold gRing at hq
  simp only [Option.bind_eq_some_iff] at hq
  obtain ⟨⟨a, t⟩, e1, e2⟩ := hq
  obtain ⟨rfl, rfl, k1⟩ := h1.val hb e1
  exact h2 k1 _ e2
theorem gt_ops {n : Nat} {l : List OpV} (h1 : Gt (gNum 1) S p b n p1 b1) (h2 : Gt (gMany gOp n) S p1 b1 l p2 b2) : Gt gOps S p b l p2 b2 := by
  intro hb q hq
  unfold gOps at hq
  simp only [Option.bind_eq_some_iff] at hq
  obtain ⟨⟨a, t⟩, e1, e2⟩ := hq
  obtain ⟨rfl, rfl, k1⟩ := h1.val hb e1
  exact h2 k1 _ e2
theorem gt_bool {x : Int} {c : Bool} (h1 : Gt (gNum 1) S p b x p1 b1) (h2 : c = decide (x = 1)) (h3 : x ≤ 1 → b2 = b1) : Gt gBool S p b c p1 b2 := by
  intro hb q hq
  unfold gBool at hq
  simp only [Option.bind_eq_some_iff] at hq
  obtain ⟨⟨a, t⟩, e1, e2⟩ := hq
  obtain ⟨rfl, rfl, k1⟩ := h1.val hb e1
  dsimp only at e2
  split at e2
  · rename_i hx
    simp only [Option.some.injEq] at e2
    rw [← e2, h2]
    exact ⟨rfl, (h3 hx).trans k1⟩
  · simp at e2
theorem gt_feat {a c : Int} {n : Nat} {l : List (List P2)} (h1 : Gt (gNum 2) S p b a p1 b1) (h2 : Gt (gNum 1) S p1 b1 c p2 b2) (h3 : Gt (gNum 1) S p2 b2 n p3 b3) (h4 : Gt (gMany gRing n) S p3 b3 l p4 b4) : Gt gFeat S p b (a, c, l) p4 b4 := by
  intro hb q hq
  unfold gFeat at hq
  simp only [Option.bind_eq_some_iff, Option.map_eq_some_iff] at hq
  obtain ⟨⟨a, t⟩, e1, ⟨c, t2⟩, e2, ⟨d, t3⟩, e3, ⟨f, t4⟩, e4, rfl⟩ := hq
  obtain ⟨rfl, rfl, k1⟩ := h1.val hb e1
  obtain ⟨rfl, rfl, k2⟩ := h2.val k1 e2
  obtain ⟨rfl, rfl, k3⟩ := h3.val k2 e3
  obtain ⟨rfl, rfl, k4⟩ := h4.val k3 e4
  exact ⟨rfl, k4⟩
theorem gt_map {a : Int} {n : Nat} {l m : List Int} (h1 : Gt (gNum 2) S p b a p1 b1) (h2 : Gt (gNum 1) S p1 b1 n p2 b2) (h3 : Gt (gMany (gNum 4) n) S p2 b2 l p3 b3) (h4 : Gt (gMany (gNum 1) n) S p3 b3 m p4 b4) : Gt gMap S p b (a, l, m) p4 b4 := by
  intro hb q hq
  unfold gMap at hq
  simp only [Option.bind_eq_some_iff, Option.map_eq_some_iff] at hq
  obtain ⟨⟨a, t⟩, e1, ⟨c, t2⟩, e2, ⟨d, t3⟩, e3, ⟨f, t4⟩, e4, rfl⟩ := hq
  obtain ⟨rfl, rfl, k1⟩ := h1.val hb e1
  obtain ⟨rfl, rfl, k2⟩ := h2.val k1 e2
  obtain ⟨rfl, rfl, k3⟩ := h3.val k2 e3
  obtain ⟨rfl, rfl, k4⟩ := h4.val k3 e4
  exact ⟨rfl, k4⟩
theorem gt_op {a : Int} {o : OpV} (h1 : Gt (gNum 1) S p b a p1 b1) (h0 : a = 0 → ∃ f sh rs, Gt gFeat S p1 b1 (f, sh, rs) p2 b2 ∧ o = ⟨0, f, sh, rs, 0, 0, [], []⟩) (h2 : a = 1 → ∃ i, Gt (gNum 2) S p1 b1 i p2 b2 ∧ o = ⟨1, 0, 0, [], i, 0, [], []⟩) (h3 : a = 2 → ∃ e ss os, Gt gMap S p1 b1 (e, ss, os) p2 b2 ∧ o = ⟨2, 0, 0, [], 0, e, ss, os⟩) : Gt gOp S p b o p2 b2 := by
  intro hb q hq
  unfold gOp at hq
  simp only [Option.bind_eq_some_iff] at hq
  obtain ⟨⟨a, t⟩, e1, e2⟩ := hq
  obtain ⟨rfl, rfl, k1⟩ := h1.val hb e1
  dsimp only at e2
  split at e2
  · rename_i c
    obtain ⟨f, sh, rs, h, rfl⟩ := h0 c
    simp only [Option.map_eq_some_iff] at e2
    obtain ⟨⟨b, t2⟩, e2, rfl⟩ := e2
    obtain ⟨rfl, rfl, k2⟩ := h.val k1 e2
    exact ⟨rfl, k2⟩
  split at e2
  · rename_i c
    obtain ⟨i, h, rfl⟩ := h2 c
    simp only [Option.map_eq_some_iff] at e2
    obtain ⟨⟨b, t2⟩, e2, rfl⟩ := e2
    obtain ⟨rfl, rfl, k2⟩ := h.val k1 e2
    exact ⟨rfl, k2⟩
  split at e2
  · rename_i c
    obtain ⟨e, ss, os, h, rfl⟩ := h3 c
    simp only [Option.map_eq_some_iff] at e2
    obtain ⟨⟨b, t2⟩, e2, rfl⟩ := e2
    obtain ⟨rfl, rfl, k2⟩ := h.val k1 e2
    exact ⟨rfl, k2⟩
  · simp at e2
theorem gt_rec {a : Int} {r : RecV} (h1 : Gt (gNum 1) S p b a p1 b1) (h0 : a = 0 → ∃ e ss os, Gt gMap S p1 b1 (e, ss, os) p2 b2 ∧ r = ⟨0, 0, 0, 0, false, e, ss, os, []⟩)
    (h2 : a = 1 ∨ a = 2 → ∃ n q x l p3 b3 p4 b4, Gt gName S p1 b1 (n, q) p3 b3 ∧ Gt (gNum 4) S p3 b3 x p4 b4 ∧ Gt gOps S p4 b4 l p2 b2 ∧ r = ⟨a, n, q, x - 1, false, 0, [], [], l⟩)
    (h3 : a = 3 → ∃ n q c p3 b3, Gt gName S p1 b1 (n, q) p3 b3 ∧ Gt gBool S p3 b3 c p2 b2 ∧ r = ⟨3, n, q, 0, c, 0, [], [], []⟩)
    (h4 : a = 4 → ∃ n q, Gt gName S p1 b1 (n, q) p2 b2 ∧ r = ⟨4, n, q, 0, false, 0, [], [], []⟩) : Gt gRec S p b r p2 b2 := by
  intro hb q hq
  unfold gRec at hq
  simp only [Option.bind_eq_some_iff] at hq
  obtain ⟨⟨a, t⟩, e1, e2⟩ := hq
  obtain ⟨rfl, rfl, k1⟩ := h1.val hb e1
  dsimp only at e2
  split at e2
  · rename_i c
    obtain ⟨e, ss, os, h, rfl⟩ := h0 c
    simp only [Option.map_eq_some_iff] at e2
    obtain ⟨⟨b, t2⟩, e2, rfl⟩ := e2
    obtain ⟨rfl, rfl, k2⟩ := h.val k1 e2
    exact ⟨rfl, k2⟩
  split at e2
  · rename_i c
    obtain ⟨n, q, x, l, p3, b3, p4, b4, g1, g2, g3, rfl⟩ := h2 c
    simp only [Option.bind_eq_some_iff, Option.map_eq_some_iff] at e2
    obtain ⟨⟨b, t2⟩, e2, ⟨c3, t3⟩, e3, ⟨c4, t4⟩, e4, rfl⟩ := e2
    obtain ⟨rfl, rfl, k2⟩ := g1.val k1 e2
    obtain ⟨rfl, rfl, k3⟩ := g2.val k2 e3
    obtain ⟨rfl, rfl, k4⟩ := g3.val k3 e4
    exact ⟨rfl, k4⟩
  split at e2
  · rename_i c
    obtain ⟨n, q, c, p3, b3, g1, g2, rfl⟩ := h3 c
    simp only [Option.bind_eq_some_iff, Option.map_eq_some_iff] at e2
    obtain ⟨⟨b, t2⟩, e2, ⟨c3, t3⟩, e3, rfl⟩ := e2
    obtain ⟨rfl, rfl, k2⟩ := g1.val k1 e2
    obtain ⟨rfl, rfl, k3⟩ := g2.val k2 e3
    exact ⟨rfl, k3⟩
  split at e2
  · rename_i c
    obtain ⟨n, q, g1, rfl⟩ := h4 c
    simp only [Option.map_eq_some_iff] at e2
    obtain ⟨⟨b, t2⟩, e2, rfl⟩ := e2
    obtain ⟨rfl, rfl, k2⟩ := g1.val k1 e2
    exact ⟨rfl, k2⟩
  · simp at e2
end
end Go.Proofs.YtmjliomgkcmjaaaGreat.RecW
