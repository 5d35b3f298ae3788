/-
  The walk of layer 11's own awake.
-/
import Derived.Test.YtmjliomgkcmjaaaRecGet
import Derived.Test.YtmjliomgkcmjaaaRecSameB
namespace Go.Proofs.Ytmjliomgkcmjaaa.RecW
open Go.RowKit Shp IntW WideW CovW ShpW
set_option linter.all false

theorem may_point (f x y : Int) (hf : 1 ≤ f ∧ f ≤ 65535) (hp : Geom.Pt x y) : Shp.May f 0 [[(x, y)]] := by
  refine ⟨hf.1, hf.2, ⟨by simp, by simp [bds], by simp [bds]⟩, ?_, ?_⟩
  · intro p h
    simp at h
    subst h
    exact hp
  · intro s h
    simp [segs, ringSg, cnt] at h
def awR : RecV := ⟨2, 1, 258, -1, false, 0, [], [], [⟨1, 0, 0, [], 3, 0, [], []⟩, ⟨0, 5, 0, [[(6, 7)]], 0, 0, [], []⟩]⟩
def awS : Byts := [2, 1, 1, 2, 0, 0, 0, 0, 2, 1, 0, 3, 0, 0, 5, 0, 1, 1, 0, 0, 0, 6, 0, 0, 0, 7]
def awR2 : RecV := ⟨3, 0, 1, 0, true, 0, [], [], []⟩
def awS2 : Byts := [3, 0, 0, 1, 1]
def awR3 : RecV := ⟨4, 0, 0, 0, false, 0, [], [], []⟩
theorem awR_may : RMay awR := by
  refine .inr (.inl ⟨.inr rfl, ⟨by decide, by decide⟩, ⟨by decide, by decide⟩, ?_, rfl, rfl, rfl, rfl⟩)
  refine ⟨by simp [awR], ?_, ?_, by simp [awR, idsOf]⟩
  · intro o ho
    simp [awR] at ho
    rcases ho with rfl | rfl
    · exact .inr (.inl ⟨rfl, by decide, ⟨rfl, rfl, rfl⟩, rfl, rfl, rfl⟩)
    · refine .inl ⟨rfl, ?_, rfl, rfl, rfl, rfl⟩
      exact may_point 5 6 7 (by decide) ⟨by decide, by decide, by decide, by decide⟩
  · intro o ho
    simp [awR] at ho
    subst ho
    simp
theorem awS_is : putRec awR = awS := by decide
theorem awS2_is : putRec awR2 = awS2 := by decide
theorem awR2_may : RMay awR2 := .inr (.inr (.inl ⟨rfl, ⟨by decide, by decide⟩, ⟨rfl, rfl, rfl⟩, rfl, rfl⟩))
theorem aw1 : PutOut awR awS 0 := .inl ⟨awR_may, by rw [awS_is]; decide, awS_is.symm, rfl⟩
theorem aw2 : PutOut awR2 awS2 0 := .inl ⟨awR2_may, by rw [awS2_is]; decide, awS2_is.symm, rfl⟩
theorem aw3 : PutOut awR3 [] 1100 := .inr ⟨fun h => by
  rcases h.1 with h | h | h | h
  · simp [awR3] at h
  · simp [awR3] at h
  · simp [awR3] at h
  · have := h.2.1.2.1; simp [awR3] at this, rfl, rfl⟩
theorem aw4 : GetOut awS awR 0 := .inl ⟨awR_may, awS_is, by decide, rfl⟩
theorem put_pos (r : RecV) : 0 < (putRec r).length := by
  unfold putRec
  rw [List.length_append, be_len]
  omega
theorem aw5 : GetOut [] rec0 1100 := .inr ⟨fun ⟨x, h1, h2, h3⟩ => by have := put_pos x; rw [h2] at this; simp at this, rfl, rfl⟩

theorem aw_ops {w : World} {g0 g1 g2 : Nat} {t0 t1 t2 : TypeId} (b0 : Blk w g0 t0 #[.int .i64 6, .int .i64 7]) (b1 : Blk w g1 t1 #[.slice (some ⟨g0, 0, none⟩) 1 1]) (b2 : Blk w g2 t2 #[.int .i64 1, .int .i64 0, .int .i64 0, .slice none 0 0, .int .i64 3, .int .i64 0, .slice none 0 0, .slice none 0 0, .int .i64 0, .int .i64 5, .int .i64 0, .slice (some ⟨g1, 0, none⟩) 1 1, .int .i64 0, .int .i64 0, .slice none 0 0, .slice none 0 0]) :
    RdOs w w.heap.size (.slice (some ⟨g2, 0, none⟩) 2 2) awR.ops := by
  have hp : RdP w w.heap.size (.slice (some ⟨g0, 0, none⟩) 1 1) [(6, 7)] := by
    refine ⟨_, _, rfl, by simp, fun _ => ⟨_, _, rfl, b0.lt, fun j hj => ?_⟩⟩
    obtain rfl : j = 0 := by simpa using hj
    exact ⟨b0.cell 0, b0.cell 1⟩
  have hr : RdR w w.heap.size (.slice (some ⟨g1, 0, none⟩) 1 1) [[(6, 7)]] := rdr_one 1 b1.lt (b1.cell 0) hp
  refine ⟨_, _, rfl, ⟨by simp [awR], by simp [awR]⟩, fun _ => ⟨_, _, rfl, b2.lt, fun j hj => ?_⟩⟩
  have hj' : j < 2 := by simpa [awR] using hj
  match j, hj' with
  | 0, _ => exact ⟨_, _, _, ⟨b2.cell 0, b2.cell 1, b2.cell 2, b2.cell 3, b2.cell 4, b2.cell 5, b2.cell 6, b2.cell 7⟩, rdr_nil _ _ _ _, RdI.nil _ _ _ _, RdI.nil _ _ _ _⟩
  | 1, _ => exact ⟨_, _, _, ⟨b2.cell 8, b2.cell 9, b2.cell 10, b2.cell 11, b2.cell 12, b2.cell 13, b2.cell 14, b2.cell 15⟩, hr, RdI.nil _ _ _ _, RdI.nil _ _ _ _⟩
theorem aw_rec (w : World) (k n s b : Int) (c : Bool) : RdRec w w.heap.size (.agg #[.int .i64 k, .int .i64 n, .int .i64 s, .int .i64 b, .bool c, .int .i64 0, .slice none 0 0, .slice none 0 0, .slice none 0 0]) ⟨k, n, s, b, c, 0, [], [], []⟩ :=
  ⟨_, _, _, rfl, RdI.nil _ _ _ _, RdI.nil _ _ _ _, RdOs.nil _ _ _ _⟩

set_option maxRecDepth 100000 in
set_option maxHeartbeats 4000000 in
theorem awake_any (w : World) :
    Calls Try.prog 5 #[] w fun e w' => e = .returned (.bool true) ∧ Below w.heap.size w w' := by
  obtain ⟨S, hS⟩ : ∃ S, awS = S := ⟨_, rfl⟩
  obtain ⟨S2, hS2⟩ : ∃ S, awS2 = S := ⟨_, rfl⟩
  have p1 := aw1
  have p2 := aw2
  have p4 := aw4
  rw [hS] at p1 p4
  rw [hS2] at p2
  have P1 := Lib.hid p1
  have P2 := Lib.hid p2
  have P4 := Lib.hid p4
  have HSS := Lib.hid (And.intro hS hS2)
  have hls : Hid (S.length ≤ 100000) := Lib.hid (by rw [← hS]; decide)
  have E1 : (S == [2, 1, 1, 2, 0, 0, 0, 0, 2, 1, 0, 3, 0, 0, 5, 0, 1, 1, 0, 0, 0, 6, 0, 0, 0, 7]) = true := by rw [← hS]; rfl
  have E2 : (S2 == [3, 0, 0, 1, 1]) = true := by rw [← hS2]; rfl
  clear p1 p2 p4 hS hS2
  obtain ⟨g0, h0⟩ : ∃ g, w.heap.size = g := ⟨_, rfl⟩
  obtain ⟨g1, h1⟩ : ∃ g, g0 + 1 = g := ⟨_, rfl⟩
  obtain ⟨g2, h2⟩ : ∃ g, g1 + 1 = g := ⟨_, rfl⟩
  obtain ⟨g3, h3⟩ : ∃ g, g2 + 1 = g := ⟨_, rfl⟩
  obtain ⟨w1, hw⟩ : ∃ w1, (((w.alloc (.cells #[.int .i64 6, .int .i64 7] 24)).alloc (.cells #[.slice (some ⟨g0, 0, none⟩) 1 1] 25)).alloc (.cells #[.int .i64 1, .int .i64 0, .int .i64 0, .slice none 0 0, .int .i64 3, .int .i64 0, .slice none 0 0, .slice none 0 0, .int .i64 0, .int .i64 5, .int .i64 0, .slice (some ⟨g1, 0, none⟩) 1 1, .int .i64 0, .int .i64 0, .slice none 0 0, .slice none 0 0] 35)).alloc (.cells #[.int .i64 2, .int .i64 1, .int .i64 258, .int .i64 (-1), .bool false, .int .i64 0, .slice none 0 0, .slice none 0 0, .slice (some ⟨g2, 0, none⟩) 2 2] 38) = w1 := ⟨_, rfl⟩
  have b0 : Blk w1 g0 24 #[.int .i64 6, .int .i64 7] := by rw [← hw]; exact (((Blk.new' _ _ _ h0.symm).alloc _).alloc _).alloc _
  have b1 : Blk w1 g1 25 #[.slice (some ⟨g0, 0, none⟩) 1 1] := by rw [← hw]; exact ((Blk.new' _ _ _ (by rw [alloc_size]; omega)).alloc _).alloc _
  have b2 : Blk w1 g2 35 #[.int .i64 1, .int .i64 0, .int .i64 0, .slice none 0 0, .int .i64 3, .int .i64 0, .slice none 0 0, .slice none 0 0, .int .i64 0, .int .i64 5, .int .i64 0, .slice (some ⟨g1, 0, none⟩) 1 1, .int .i64 0, .int .i64 0, .slice none 0 0, .slice none 0 0] := by rw [← hw]; exact (Blk.new' _ _ _ (by rw [alloc_size, alloc_size]; omega)).alloc _
  have b3 : Blk w1 g3 38 #[.int .i64 2, .int .i64 1, .int .i64 258, .int .i64 (-1), .bool false, .int .i64 0, .slice none 0 0, .slice none 0 0, .slice (some ⟨g2, 0, none⟩) 2 2] := by rw [← hw]; exact Blk.new' _ _ _ (by rw [alloc_size, alloc_size, alloc_size]; omega)
  have B1 : Below w.heap.size w w1 := by rw [← hw]; exact Ba (Ba (Ba (Ba B0)))
  have HV1 : Hid (RdRec w1 w1.heap.size (.agg #[.int .i64 2, .int .i64 1, .int .i64 258, .int .i64 (-1), .bool false, .int .i64 0, .slice none 0 0, .slice none 0 0, .slice (some ⟨g2, 0, none⟩) 2 2]) awR) := Lib.hid ⟨_, _, _, rfl, RdI.nil _ _ _ _, RdI.nil _ _ _ _, aw_ops b0 b1 b2⟩
  clear b0 b1 b2
  go_enter Try.func5, Try.ntmps5
  go_upto_region 2 with fail
  clear hw h0 h1 h2 h3
  have d0 := b3.cell 0
  have d1 := b3.cell 1
  have d2 := b3.cell 2
  have d3 := b3.cell 3
  have d4 := b3.cell 4
  have d5 := b3.cell 5
  have d6 := b3.cell 6
  have d7 := b3.cell 7
  have d8 := b3.cell 8
  simp at d0 d1 d2 d3 d4 d5 d6 d7 d8
  have PT := put_any _ awR S 0 w1 HV1.out P1.out
  unfold strV at PT
  go_wp2_with fail
  refine PT.mono ?_
  rintro _ w2 ⟨rfl, hb⟩
  clear PT
  have b3 := b3.keep hb
  have HV2 := Lib.hid (HV1.out.on hb)
  have B2 := Bt B1 hb
  clear hb HV1 B1 d0 d1 d2 d3 d4 d5 d6 d7 d8
  have GT := get_any S w2 (.inl hls.out)
  unfold strV at GT
  go_wp2_with fail
  refine GT.mono ?_
  rintro _ w3 ⟨_, r, e, rfl, ⟨v1, v2, vo, rfl, k1, k2, k3⟩, hsm, hg, hb⟩
  clear GT
  obtain ⟨rfl, rfl⟩ := getOut_uniq hg P4.out
  obtain ⟨A1, c1, e1⟩ := row_slice k1.1
  obtain ⟨A2, c2, e2⟩ := row_slice k2.1
  obtain ⟨A3, c3, e3⟩ : ∃ A c, vo = .slice A awR.ops.length c := by obtain ⟨us, h, -⟩ := k3; exact row_slice h.1
  obtain ⟨n1, hn1⟩ : ∃ n, awR.ss.length = n := ⟨_, rfl⟩
  obtain ⟨n2, hn2⟩ : ∃ n, awR.os.length = n := ⟨_, rfl⟩
  obtain ⟨n3, hn3⟩ : ∃ n, awR.ops.length = n := ⟨_, rfl⟩
  rw [hn1] at e1
  rw [hn2] at e2
  rw [hn3] at e3
  subst e1 e2 e3
  have HX : Hid (RdRec w3 w3.heap.size (.agg #[.int .i64 2, .int .i64 1, .int .i64 258, .int .i64 (-1), .bool false, .int .i64 0, .slice A1 n1 c1, .slice A2 n2 c2, .slice A3 n3 c3]) awR) := Lib.hid (RVal.read ⟨_, _, _, rfl, k1, k2, k3⟩ hsm)
  clear k1 k2 k3 hsm hg hn1 hn2 hn3
  dsimp only [awR]
  have b3 := b3.keep hb
  have HV3 := Lib.hid (HV2.out.on hb)
  have B3 := Bt B2 hb
  obtain ⟨g4, h4⟩ : ∃ g, w3.heap.size = g := ⟨_, rfl⟩
  have b4 := Blk.new w3 38 #[.int .i64 2, .int .i64 1, .int .i64 258, .int .i64 (-1), .bool false, .int .i64 0, .slice A1 n1 c1, .slice A2 n2 c2, .slice A3 n3 c3]
  rw [h4] at b4
  have H4 := Ba (w := w3) (o := .cells #[.int .i64 2, .int .i64 1, .int .i64 258, .int .i64 (-1), .bool false, .int .i64 0, .slice A1 n1 c1, .slice A2 n2 c2, .slice A3 n3 c3] 38) B0
  have b3 := b3.keep H4
  have HV4 := Lib.hid (HV3.out.on H4)
  have HX4 := Lib.hid (HX.out.on H4)
  have B4 := Bt B3 H4
  clear hb HV2 HV3 HX B2 B3 H4
  go_upto_region 4 with fail
  generalize w3.alloc (.cells #[.int .i64 2, .int .i64 1, .int .i64 258, .int .i64 (-1), .bool false, .int .i64 0, .slice A1 n1 c1, .slice A2 n2 c2, .slice A3 n3 c3] 38) = w4 at *
  clear h4
  have PT := put_any _ _ [] 1100 w4 (aw_rec w4 4 0 0 0 false) aw3
  unfold strV at PT
  go_wp2_with fail
  refine PT.mono ?_
  rintro _ w5 ⟨rfl, hb⟩
  clear PT
  have b3 := b3.keep hb
  have b4 := b4.keep hb
  have HV5 := Lib.hid (HV4.out.on hb)
  have HX5 := Lib.hid (HX4.out.on hb)
  have B5 := Bt B4 hb
  clear hb HV4 HX4 B4
  have GT := get_any [] w5 (.inl (by simp))
  unfold strV at GT
  go_wp2_with fail
  refine GT.mono ?_
  rintro _ w6 ⟨_, r, e, rfl, ⟨v1, v2, vo, rfl, k1, k2, k3⟩, hsm, hg, hb⟩
  clear GT
  obtain ⟨rfl, rfl⟩ := getOut_uniq hg aw5
  obtain ⟨A5, c5, rfl⟩ := row_slice k1.1
  obtain ⟨A6, c6, rfl⟩ := row_slice k2.1
  obtain ⟨A7, c7, rfl⟩ : ∃ A c, vo = .slice A rec0.ops.length c := by obtain ⟨us, h, -⟩ := k3; exact row_slice h.1
  dsimp only [rec0, List.length_nil]
  clear k1 k2 k3 hsm hg
  have H6 := Below.trans hb ((Ba (w := w6) (o := .cells #[.int .i64 0, .int .i64 0, .int .i64 0, .int .i64 0, .bool false, .int .i64 0, .slice A5 0 c5, .slice A6 0 c6, .slice A7 0 c7] 38) B0).mono hb.size)
  have b3 := b3.keep H6
  have b4 := b4.keep H6
  have HV6 := Lib.hid (HV5.out.on H6)
  have HX6 := Lib.hid (HX5.out.on H6)
  have B6 := Bt B5 H6
  clear hb H6 HV5 HX5 B5
  go_upto_region 6 with fail
  generalize w6.alloc (.cells #[.int .i64 0, .int .i64 0, .int .i64 0, .int .i64 0, .bool false, .int .i64 0, .slice A5 0 c5, .slice A6 0 c6, .slice A7 0 c7] 38) = w7 at *
  have PT := put_any _ _ S2 0 w7 (aw_rec w7 3 0 1 0 true) P2.out
  unfold strV at PT
  go_wp2_with fail
  refine PT.mono ?_
  rintro _ w8 ⟨rfl, hb⟩
  clear PT
  have b3 := b3.keep hb
  have b4 := b4.keep hb
  have HV8 := Lib.hid (HV6.out.on hb)
  have HX8 := Lib.hid (HX6.out.on hb)
  have B8 := Bt B6 hb
  clear hb HV6 HX6 B6
  have d0 := b3.cell 0
  have d1 := b3.cell 1
  have d2 := b3.cell 2
  have d3 := b3.cell 3
  have d4 := b3.cell 4
  have d5 := b3.cell 5
  have d6 := b3.cell 6
  have d7 := b3.cell 7
  have d8 := b3.cell 8
  simp at d0 d1 d2 d3 d4 d5 d6 d7 d8
  have u0 := b4.cell 0
  have u1 := b4.cell 1
  have u2 := b4.cell 2
  have u3 := b4.cell 3
  have u4 := b4.cell 4
  have u5 := b4.cell 5
  have u6 := b4.cell 6
  have u7 := b4.cell 7
  have u8 := b4.cell 8
  simp at u0 u1 u2 u3 u4 u5 u6 u7 u8
  go_wp2_with fail
  refine (num_any 0 w8).mono ?_
  rintro _ _ ⟨rfl, rfl⟩
  go_wp2_with fail
  refine (sameR_any _ _ awR awR true w8 HX8.out HV8.out (by simp)).mono ?_
  rintro _ w9 ⟨rfl, hb⟩
  have B9 := Bt B8 hb
  clear d0 d1 d2 d3 d4 d5 d6 d7 d8 u0 u1 u2 u3 u4 u5 u6 u7 u8 hb B8 HX8 HV8
  go_wp2_with fail
  refine (num_any 0 w9).mono ?_
  rintro _ _ ⟨rfl, rfl⟩
  go_wp2_with fail
  refine (num_any 1100 w9).mono ?_
  rintro _ _ ⟨rfl, rfl⟩
  go_wp2_with fail
  refine (num_any 1100 w9).mono ?_
  rintro _ _ ⟨rfl, rfl⟩
  go_wp2_with fail
  refine (num_any 0 w9).mono ?_
  rintro _ _ ⟨rfl, rfl⟩
  go_wp2_with fail
  go_ret
  exact ⟨rfl, B9⟩
end Go.Proofs.Ytmjliomgkcmjaaa.RecW
