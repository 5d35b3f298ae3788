/-
  The walks of the program's own readers: Ops, NewReader, read (written by tools/gen/recops.py).
-/
import Derived.Test.YtmjliomgkcmjaaaRecRdD
namespace Go.Proofs.Ytmjliomgkcmjaaa.RecW
open Go.RowKit Shp IntW WideW CovW ShpW
set_option linter.all false

theorem op_info : (Try.prog.info? 35).map (fun i => (i.zero, i.size, i.bytes)) = some (some (.agg #[.int .i64 0, .int .i64 0, .int .i64 0, .slice none 0 0, .int .i64 0, .int .i64 0, .slice none 0 0, .slice none 0 0]), 8, 112) := by kernel_rfl

set_option maxRecDepth 100000 in
set_option maxHeartbeats 4000000 in
theorem gops_any (n : Nat) (s : Byts) (w : World) (h : Rr w n s) (hl : s.length ≤ 100000) :
    Calls Try.prog 33 #[.pointer (some ⟨n, 0, none⟩)] w fun e w' => ∃ (v : Value) (l : List OpV) (s' : Byts), e = .returned v ∧ ORow w' w.heap.size w'.heap.size v l ∧ (l.length ≤ 255 ∧ ∀ o ∈ l, SmallO o) ∧ Rr w' n s' ∧ Kr n w w' ∧ s'.length ≤ s.length ∧ Got gOps s l s' := by
  have lw := Blk.lt h
  go_enter Try.func33, Try.ntmps33
  go_wp2_with fail
  refine (gnum_any n 1 s w (.inl rfl) h hl).mono ?_
  rintro _ w2 ⟨m, s1, rfl, h2, k2, hx, hl2, hg⟩
  have hm : m ≤ 255 := by omega
  have HG := Lib.hid hg
  clear hg hx
  go_wp2_with fail
  go_loopw [3, 6] (fun v i W => ∃ (k : Nat) (l : List OpV) (t : Byts), k ≤ m ∧ i = .int .i64 k ∧ l.length = k ∧ Hid (∀ o ∈ l, SmallO o) ∧ ORow W w.heap.size W.heap.size v l ∧ Rr W n t ∧ Kr n w W ∧ t.length ≤ s1.length ∧ Hid (Got (gMany gOp k) s1 l t)) (fun v i _ => m - (intOf i).toNat)
  case atStart => exact ⟨0, [], s1, Nat.zero_le _, rfl, rfl, Lib.hid (by simp), ORow.nil _ _ _, h2, k2, Nat.le_refl _, Lib.hid (Got.many0 _ _)⟩
  case round =>
    obtain ⟨k, l, t, hk, rfl, hlk, HALL, hP, hR, hK, ht, HM⟩ := hrel
    by_cases hlt : k < m
    · have HLK := Lib.hid hlk
      obtain ⟨us, hP, hS⟩ := hP
      rw [hlk] at hP
      clear hlk
      obtain ⟨A3, c3, rfl⟩ := row_slice hP.1
      have HP := Lib.hid hP
      have HS := Lib.hid hS
      clear hP hS
      go_wp2_with fail
      refine (gop_any n t wr hR (by omega)).mono ?_
      rintro _ w3 ⟨_, o, t2, rfl, ⟨rv, v1, v2, rfl, hr0, hr1, hr2⟩, hsm, h3, k3, hl3, hg3⟩
      have HG3 := Lib.hid hg3
      have HSM := Lib.hid hsm
      clear hg3 hsm
      obtain ⟨kind, fid, sh, rs, id, ep, ss, os⟩ := o
      dsimp only at hr0 hr1 hr2 ⊢
      obtain ⟨us0, hr0', hr0s⟩ := hr0
      obtain ⟨A0, c0, e0⟩ := row_slice hr0'.1
      obtain ⟨A1, c1, e1⟩ := row_slice hr1.1
      obtain ⟨A2, c2, e2⟩ := row_slice hr2.1
      obtain ⟨q0, hq0⟩ : ∃ q, rs.length = q := ⟨_, rfl⟩
      obtain ⟨q1, hq1⟩ : ∃ q, ss.length = q := ⟨_, rfl⟩
      obtain ⟨q2, hq2⟩ : ∃ q, os.length = q := ⟨_, rfl⟩
      rw [hq0] at e0
      rw [hq1] at e1
      rw [hq2] at e2
      subst e0 e1 e2
      have HO : Hid (OCell w3 wr.heap.size w3.heap.size #[.int .i64 kind, .int .i64 fid, .int .i64 sh, .slice A0 q0 c0, .int .i64 id, .int .i64 ep, .slice A1 q1 c1, .slice A2 q2 c2].toList 0 ⟨kind, fid, sh, rs, id, ep, ss, os⟩) := Lib.hid ⟨_, _, _, ⟨rfl, rfl, rfl, rfl, rfl, rfl, rfl, rfl⟩, ⟨us0, hr0', hr0s⟩, hr1, hr2⟩
      clear hr0' hr0s hr1 hr2 hq0 hq1 hq2
      have K3 := hK.trans k3
      have hs3 := K3.size
      have hsw := hK.size
      have BL := Lib.hid (Blk.new w3 35 #[.int .i64 kind, .int .i64 fid, .int .i64 sh, .slice A0 q0 c0, .int .i64 id, .int .i64 ep, .slice A1 q1 c1, .slice A2 q2 c2])
      have HP4 := Lib.hid (World.ownsRow.kept (ORw.kept HP.out (Kt.of_kr k3 [35] (.inl lw)) (by simp)).1 (CovW.grown_below (Ba (o := .cells #[.int .i64 kind, .int .i64 fid, .int .i64 sh, .slice A0 q0 c0, .int .i64 id, .int .i64 ep, .slice A1 q1 c1, .slice A2 q2 c2] 35) B0) none) (by cases A3 <;> simp [Value.ownBlock]))
      have K4 := K3.alloc (.cells #[.int .i64 kind, .int .i64 fid, .int .i64 sh, .slice A0 q0 c0, .int .i64 id, .int .i64 ep, .slice A1 q1 c1, .slice A2 q2 c2] 35)
      have h4 : Rr (w3.alloc (.cells #[.int .i64 kind, .int .i64 fid, .int .i64 sh, .slice A0 q0 c0, .int .i64 id, .int .i64 ep, .slice A1 q1 c1, .slice A2 q2 c2] 35)) n t2 := Blk.alloc h3 _
      have HLE := Lib.hid K4.size
      have HI32 : Hid (k ≤ 1000000) := Lib.hid (by omega)
      have HNE : Hid (∀ q, (Value.slice A3 k c3).ownBlock = some q → w.heap.size ≤ q) := Lib.hid (fun q hq => (World.ownsRow.lt HP4.out q hq).1)
      go_wp2_with (at_builtin; refine app1_list (base := w.heap.size) Try.underlying36 op_info rfl (by decide) rfl (.tmp 8) (.tmp 11) rfl (by rfl) (by rfl) HP4.out BL.out (by rfl) (fun u hu => by simp at hu; rcases hu with h | h | h | h | h | h | h | h <;> rw [h] <;> rfl) HI32.out (by decide) HLE.out ?_; intro v2 x3 R3 F3; obtain ⟨A4, c4, rfl⟩ := row_slice R3; have HR3 := Lib.hid R3; have HF3 := Lib.hid F3; clear R3 F3)
      have hR5 : Rr x3 n t2 := Blk.grown h4 HF3.out.1 (fun e => by have := HNE.out n e.symm; omega)
      have hK5 : Kr n w x3 := K4.grown HF3.out.1 HNE.out
      have hs5 : w3.heap.size ≤ x3.heap.size := by have := HF3.out.1.size; rw [alloc_size] at this; omega
      have KT : Kt opIn w.heap.size w3.heap.size w3 x3 := Kt.trans (Kt.of_below (Ba (o := .cells #[.int .i64 kind, .int .i64 fid, .int .i64 sh, .slice A0 q0 c0, .int .i64 id, .int .i64 ep, .slice A1 q1 c1, .slice A2 q2 c2] 35) B0) _ (Nat.le_refl _)) (Kt.of_frm HF3.out HP4.out (by decide))
      have hP5 : ORow x3 w.heap.size x3.heap.size (.slice A4 (k + 1) c4) (l ++ [⟨kind, fid, sh, rs, id, ep, ss, os⟩]) := by
        refine ORow.push (us := us) (cs := #[.int .i64 kind, .int .i64 fid, .int .i64 sh, .slice A0 q0 c0, .int .i64 id, .int .i64 ep, .slice A1 q1 c1, .slice A2 q2 c2].toList) (hi := w3.heap.size) (by rw [HLK.out]; exact HR3.out) (fun j hj => ?_) ((HO.out.less (by omega)).kept KT (by simp [opIn])) (by have := HP.out.1.1; rw [HLK.out]; omega) rfl hs5
        exact (((HS.out j hj).kept (Kt.of_kr k3 opIn (.inl lw)) (by simp [opIn])).more k3.size).kept KT (by simp [opIn])
      exact ⟨⟨k + 1, _, t2, by omega, by simp only [Int.natCast_add, Int.cast_ofNat_Int], by rw [List.length_append, HLK.out, List.length_singleton], Lib.hid (fun o ho => (List.mem_append.1 ho).elim (HALL.out o) (fun e => by rw [List.mem_singleton.1 e]; exact HSM.out)), hP5, hR5, hK5, by omega, Lib.hid (HM.out.many HG3.out)⟩, by simp [intOf]; omega⟩
    · obtain rfl : k = m := by omega
      go_wp2_with fail
      refine bodyPost_ret (v := u3) (by simp [results, Try.results33, go_sem]) rfl ⟨u3, l, t, rfl, hP, ⟨by omega, HALL.out⟩, hR, hK, by omega, got_ops HG.out HM.out⟩

set_option maxHeartbeats 1000000 in
theorem newReader_any (s : Byts) (w : World) :
    Calls Try.prog 28 #[strV s] w fun e w' => e = .returned (.pointer (some ⟨w.heap.size, 0, none⟩)) ∧ w' = w.alloc (.cells #[strV s] 82) := by
  unfold strV
  go_enter Try.func28, Try.ntmps28
  go_wp2_with fail
  exact bodyPost_ret (v := .pointer (some ⟨w.heap.size, 0, none⟩)) (by simp [results, Try.results28, go_sem]) rfl ⟨rfl, rfl⟩
end Go.Proofs.Ytmjliomgkcmjaaa.RecW
