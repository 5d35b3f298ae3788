/-
  The document's own disk: a crash.
-/
import Derived.Test.YtabecmbeenmjaaaDkRefB
namespace Go.Proofs.Ytabecmbeenmjaaa.DiskW
open Go.RowKit WideW
set_option linter.all false

/-- The sectors below i are what the crash leaves. -/
def St.upto (s : St) (c : Cr) (i : Nat) : St := { s with now := fun k => if k < i ∧ s.dirty k = true then mix (c.kept (s.rank k)) (s.now k) (s.old k) else s.now k }
theorem St.upto_zero (s : St) (c : Cr) : s.upto c 0 = s := by simp [St.upto]
theorem St.upto_all {s : St} (h : s.Ok) (c : Cr) : (s.upto c s.n).sync = s.crash c := by
  have e : (s.upto c s.n).now = fun k => if s.dirty k = true then mix (c.kept (s.rank k)) (s.now k) (s.old k) else s.now k := by
    funext k
    show (if k < s.n ∧ s.dirty k = true then _ else _) = _
    by_cases d : s.dirty k = true
    · have l : k < s.n := by
        rcases Nat.lt_or_ge k s.n with e | e
        · exact e
        · rw [h.out k e] at d; cases d
      rw [if_pos ⟨l, d⟩, if_pos d]
    · rw [if_neg (fun x => d x.2), if_neg d]
  show ({ (s.upto c s.n) with old := (s.upto c s.n).now, dirty := fun _ => false } : St) = _
  unfold St.crash St.sync
  simp only [e]
  rfl
theorem St.upto_now (s : St) (c : Cr) (i : Nat) : (s.upto c i).now i = s.now i := by
  show (if i < i ∧ _ then _ else _) = _
  rw [if_neg (by omega)]
theorem St.upto_dirty {s : St} (c : Cr) {i : Nat} (d : s.dirty i = true) : s.upto c (i + 1) = (s.upto c i).put i (mix (c.kept (s.rank i)) (s.now i) (s.old i)) := by
  have e : (s.upto c (i + 1)).now = up (s.upto c i).now i (mix (c.kept (s.rank i)) (s.now i) (s.old i)) := by
    funext k
    show (if k < i + 1 ∧ s.dirty k = true then _ else _) = (if k = i then _ else (if k < i ∧ s.dirty k = true then _ else _))
    by_cases q : k = i
    · subst q; rw [if_pos ⟨by omega, d⟩, if_pos rfl]
    · rw [if_neg q]
      by_cases l : k < i ∧ s.dirty k = true
      · rw [if_pos ⟨by omega, l.2⟩, if_pos l]
      · rw [if_neg (fun x => l ⟨by omega, x.2⟩), if_neg l]
  show ({ s with now := (s.upto c (i + 1)).now } : St) = { s with now := up (s.upto c i).now i _ }
  rw [e]
theorem St.upto_clean {s : St} (c : Cr) {i : Nat} (d : s.dirty i = false) : s.upto c (i + 1) = s.upto c i := by
  have e : (s.upto c (i + 1)).now = (s.upto c i).now := by
    funext k
    show (if k < i + 1 ∧ s.dirty k = true then _ else _) = (if k < i ∧ s.dirty k = true then _ else _)
    by_cases l : k < i ∧ s.dirty k = true
    · rw [if_pos ⟨by omega, l.2⟩, if_pos l]
    · rw [if_neg (fun x => l ⟨by
        have : k ≠ i := fun e => by rw [e, d] at x; cases x.2
        omega, x.2⟩), if_neg l]
  show ({ s with now := (s.upto c (i + 1)).now } : St) = { s with now := (s.upto c i).now }
  rw [e]
theorem St.upto_same {s : St} (h : s.Ok) {c : Cr} {i : Nat} (d : s.dirty i = true) (hk : c.kept (s.rank i) = 64) : s.upto c (i + 1) = s.upto c i := by
  rw [St.upto_dirty c d, hk, mix_all (h.len i) (h.olen i), ← St.upto_now s c i]
  show ({ (s.upto c i) with now := up (s.upto c i).now i ((s.upto c i).now i) } : St) = _
  rw [up_id]

section
variable {w : World} {b p q r c1 c2 : Nat} {s : St}
set_option maxRecDepth 100000 in
set_option maxHeartbeats 400000 in
theorem rcrash_out (w : World) (k : Rf w b p q r c1 c2 s) (x y z : Int) (hb : ¬ (0 ≤ z ∧ z ≤ 64)) :
    Calls Try.prog 18 #[.pointer (some ⟨b, 0, none⟩), .agg #[.int .i64 x, .int .i64 y, .int .i64 z]] w fun e w' => e = .returned (.int .i64 800) ∧ Below w.heap.size w w' := by
  by_cases h0 : z < 0
  · clear hb
    go_enter Try.func18, Try.ntmps18
    go_wp2
    go_ret
    exact ⟨rfl, Ba B0⟩
  · have h1 : 64 < z := by omega
    clear hb
    go_enter Try.func18, Try.ntmps18
    go_wp2
    go_ret
    exact ⟨rfl, Ba B0⟩

set_option maxRecDepth 100000 in
set_option maxHeartbeats 1600000 in
theorem rcrash_in (w : World) (k : Rf w b p q r c1 c2 s) (keep torn : Int) (bn : Nat) (h1 : bn ≤ 64) :
    Calls Try.prog 18 #[.pointer (some ⟨b, 0, none⟩), .agg #[.int .i64 keep, .int .i64 torn, .int .i64 (bn : Int)]] w fun e w' => e = .returned (.int .i64 0) ∧ Rf w' b p q r c1 c2 (s.crash ⟨keep, torn, bn⟩) ∧ Fr (In4 b p q r) w w' := by
  have HOK := Lib.hid k.ok
  have hi := k.ok.hi
  obtain ⟨n, hn⟩ : ∃ n, s.n = n := ⟨_, rfl⟩
  have HN := Lib.hid hn
  obtain ⟨c, hc⟩ : ∃ c : Cr, c = ⟨keep, torn, bn⟩ := ⟨_, rfl⟩
  have HC := Lib.hid hc
  have HALL := Lib.hid (St.upto_all k.ok c)
  have h64 : (bn : Int) ≤ 64 := by omega
  rw [hn] at hi
  rw [← hc]
  clear hn hc
  go_enter Try.func18, Try.ntmps18
  go_wp2_with fail
  have B1 : Below w.heap.size w (w.alloc (.cells #[.int .i64 keep, .int .i64 torn, .int .i64 (bn : Int)] 33)) := Ba B0
  have k1 : Rf (w.alloc (.cells #[.int .i64 keep, .int .i64 torn, .int .i64 (bn : Int)] 33)) b p q r c1 c2 s := k.keep B1
  have q1 : Blk (w.alloc (.cells #[.int .i64 keep, .int .i64 torn, .int .i64 (bn : Int)] 33)) w.heap.size 33 #[.int .i64 keep, .int .i64 torn, .int .i64 (bn : Int)] := Blk.new _ _ _
  have nb : ¬ In4 b p q r w.heap.size := fun e => by
    have l1 := k.b_lt; have l2 := k.p_lt; have l3 := k.q_lt; have l4 := k.r_lt
    rcases e with e | e | e | e <;> omega
  have F1 : Fr (In4 b p q r) w (w.alloc (.cells #[.int .i64 keep, .int .i64 torn, .int .i64 (bn : Int)] 33)) := Fr.of_below B1 _
  clear k B1
  generalize w.alloc (.cells #[.int .i64 keep, .int .i64 torn, .int .i64 (bn : Int)] 33) = W at *
  go_loopw [5, 6] (fun a i wr => ∃ j : Nat, j ≤ n ∧ i = .int .i64 j ∧ a = .int .i64 (s.rank j) ∧ Rf wr b p q r c1 c2 (s.upto c j) ∧ Blk wr w.heap.size 33 #[.int .i64 keep, .int .i64 torn, .int .i64 (bn : Int)] ∧ Fr (In4 b p q r) w wr) (fun _ i _ => n - (Go.RowKit.intOf i).toNat)
  case atStart => exact ⟨0, by omega, rfl, rfl, by rw [St.upto_zero]; exact k1, q1, F1⟩
  case round =>
    clear k1 q1 F1
    obtain ⟨j, hj, rfl, rfl, k, Q, F⟩ := hrel
    have d0 := k.c0
    have d1 := k.c1_
    have d2 := k.c2_
    have hsn : (s.upto c j).n = n := HN.out
    rw [hsn] at d0 d1 d2
    have o0 : wr.cell? ⟨w.heap.size, 0, none⟩ = some (.int .i64 keep) := by rw [Q.cell]; rfl
    have o1 : wr.cell? ⟨w.heap.size, 1, none⟩ = some (.int .i64 torn) := by rw [Q.cell]; rfl
    have o2 : wr.cell? ⟨w.heap.size, 2, none⟩ = some (.int .i64 (bn : Int)) := by rw [Q.cell]; rfl
    by_cases hlt : j < n
    · have hltI : (j : Int) < (n : Int) := by omega
      have hjs : j < (s.upto c j).n := by rw [hsn]; exact hlt
      have x0 := k.now.cell hjs
      rw [St.upto_now] at x0
      have x1 : wr.cell? ⟨q, j, none⟩ = some (strV (s.old j)) := k.old.cell hjs
      have x2 : wr.cell? ⟨r, j, none⟩ = some (.bool (s.dirty j)) := k.dty.cell hjs
      have f0 := k.now.frozen j
      obtain ⟨ρ', hρ'⟩ : ∃ ρ', s.rank (j + 1) = ρ' := ⟨_, rfl⟩
      have hst := s.rank_succ j
      rw [hρ'] at hst
      have hrl : s.rank j ≤ j := by
        have := List.countP_le_length (p := s.dirty) (l := List.range j)
        simpa [St.rank] using this
      obtain ⟨ρ, hρ⟩ : ∃ ρ, s.rank j = ρ := ⟨_, rfl⟩
      rw [hρ] at hst hrl ⊢
      have HR := Lib.hid hρ'
      have HRJ := Lib.hid hρ
      have hρI : (ρ : Int) < 2000 := by omega
      have HF := Lib.hid F
      clear hρ hρ' hsn hrl F
      cases hd : s.dirty j
      · rw [hd] at x2 hst
        have e1 : ρ' = ρ := by simpa using hst
        subst e1
        have k2 := k
        rw [← St.upto_clean c hd] at k2
        clear hst hd k
        go_wp2_with fail
        go_roundw
        case rel => exact ⟨j + 1, by omega, by go_num, by rw [HR.out], k2, Q, HF.out⟩
        case measure => simp [Go.RowKit.intOf]; omega
      · rw [hd] at x2 hst
        have e1 : ρ' = ρ + 1 := by simpa using hst
        have HE := Lib.hid e1
        have HD := Lib.hid hd
        clear hst hd e1
        by_cases ht : (ρ : Int) = torn
        · subst ht
          have nl := HOK.out.len j
          have ol := HOK.out.olen j
          have C1 := cut_hi (s.now j) bn (by rw [nl]; exact h1)
          have C2 := cut_lo (s.old j) bn (by rw [ol]; exact h1)
          have C3 := add_str ((s.now j).take bn) ((s.old j).drop bn) (by rw [List.length_take, List.length_drop, nl, ol]; omega)
          have hkb : c.kept ρ = bn := by
            rw [HC.out]; unfold Cr.kept
            rw [if_pos rfl]; rfl
          obtain ⟨t, ht2⟩ : ∃ t, strV ((s.now j).take bn ++ (s.old j).drop bn) = .string t := ⟨_, rfl⟩
          rw [ht2] at C3
          have k2' := k.drew'.put (a := j) (v := mix bn (s.now j) (s.old j)) HD.out (mix_len nl ol h1)
          have ek : (s.upto c j).put j (mix bn (s.now j) (s.old j)) = s.upto c (j + 1) := by rw [St.upto_dirty c HD.out, HRJ.out, hkb]
          rw [ek] at k2'
          unfold mix at k2'
          rw [ht2] at k2'
          have k2 : Rf (wr.setCell ⟨p, j, none⟩ (.string t)).drew b p q r c1 c2 (s.upto c (j + 1)) := k2'
          have Q2 : Blk (wr.setCell ⟨p, j, none⟩ (.string t)).drew w.heap.size 33 #[.int .i64 keep, .int .i64 (ρ : Int), .int .i64 (bn : Int)] := Q.far (p := ⟨p, j, none⟩) (fun e => nb (.inr (.inl e))) _
          have F2 : Fr (In4 b p q r) w (wr.setCell ⟨p, j, none⟩ (.string t)).drew := (HF.out.trans (Fr.of_set _ (.inr (.inl rfl)) _)).trans (Fr.of_below (Bd B0) _)
          clear k2' ek ht2 hkb k Q nl ol
          go_upto_region 9 with fail
          go_still_tail 27, (by kernel_rfl)
          change wpList _ _ _ _ _ wr.drew
          go_wp2_with fail
          go_roundw
          case rel => exact ⟨j + 1, by omega, by go_num, by rw [HR.out, HE.out]; exact val_int (by omega), k2, Q2, F2⟩
          case measure => simp [Go.RowKit.intOf]; omega
        · by_cases h62 : 62 ≤ ρ
          · have h62I : (62 : Int) ≤ (ρ : Int) := by omega
            have hk0 : c.kept ρ = 0 := by
              rw [HC.out]; unfold Cr.kept
              rw [if_neg ht, if_neg (fun e => by omega)]
            obtain ⟨t, ht2⟩ : ∃ t, strV (s.old j) = .string t := ⟨_, rfl⟩
            rw [ht2] at x1
            have k2' := k.drew'.put (a := j) (v := s.old j) HD.out (HOK.out.olen j)
            have ek : (s.upto c j).put j (s.old j) = s.upto c (j + 1) := by rw [St.upto_dirty c HD.out, HRJ.out, hk0, mix_none]
            rw [ek, ht2] at k2'
            have k2 : Rf (wr.setCell ⟨p, j, none⟩ (.string t)).drew b p q r c1 c2 (s.upto c (j + 1)) := k2'
            have Q2 : Blk (wr.setCell ⟨p, j, none⟩ (.string t)).drew w.heap.size 33 #[.int .i64 keep, .int .i64 torn, .int .i64 (bn : Int)] := Q.far (p := ⟨p, j, none⟩) (fun e => nb (.inr (.inl e))) _
            have F2 : Fr (In4 b p q r) w (wr.setCell ⟨p, j, none⟩ (.string t)).drew := (HF.out.trans (Fr.of_set _ (.inr (.inl rfl)) _)).trans (Fr.of_below (Bd B0) _)
            clear k2' ek ht2 hk0 k Q
            go_upto_region 11 with fail
            go_still_tail 13, (by kernel_rfl)
            change wpList _ _ _ _ _ wr.drew
            go_wp2_with fail
            go_roundw
            case rel => exact ⟨j + 1, by omega, by go_num, by rw [HR.out, HE.out]; exact val_int (by omega), k2, Q2, F2⟩
            case measure => simp [Go.RowKit.intOf]; omega
          · have h62I : ¬ (62 : Int) ≤ (ρ : Int) := by omega
            obtain ⟨x, hx⟩ : ∃ x, bits .and .i64 (keep / 2 ^ ρ) 1 = x := ⟨_, rfl⟩
            have hx2 : keep / 2 ^ ρ % 2 = x := by rw [← hx, and1]
            have hq3 : bit keep ρ = decide (x = 1) := by unfold bit; rw [hx2]
            have HQ := Lib.hid hq3
            have hx01 : x = 0 ∨ x = 1 := by
              have := Int.emod_nonneg (keep / 2 ^ ρ) (show (2 : Int) ≠ 0 by decide)
              have := Int.emod_lt_of_pos (keep / 2 ^ ρ) (show (0 : Int) < 2 by decide)
              omega
            clear hx2 hq3
            rcases hx01 with rfl | rfl
            · have q0 : True := trivial
              have hk0 : c.kept ρ = 0 := by
                rw [HC.out]; unfold Cr.kept
                rw [if_neg ht, if_neg (fun e => by have e2 : bit keep ρ = true := e.2; rw [HQ.out] at e2; simp at e2)]
              obtain ⟨t, ht2⟩ : ∃ t, strV (s.old j) = .string t := ⟨_, rfl⟩
              rw [ht2] at x1
              have k2' := k.drew'.put (a := j) (v := s.old j) HD.out (HOK.out.olen j)
              have ek : (s.upto c j).put j (s.old j) = s.upto c (j + 1) := by rw [St.upto_dirty c HD.out, HRJ.out, hk0, mix_none]
              rw [ek, ht2] at k2'
              have k2 : Rf (wr.setCell ⟨p, j, none⟩ (.string t)).drew b p q r c1 c2 (s.upto c (j + 1)) := k2'
              have Q2 : Blk (wr.setCell ⟨p, j, none⟩ (.string t)).drew w.heap.size 33 #[.int .i64 keep, .int .i64 torn, .int .i64 (bn : Int)] := Q.far (p := ⟨p, j, none⟩) (fun e => nb (.inr (.inl e))) _
              have F2 : Fr (In4 b p q r) w (wr.setCell ⟨p, j, none⟩ (.string t)).drew := (HF.out.trans (Fr.of_set _ (.inr (.inl rfl)) _)).trans (Fr.of_below (Bd B0) _)
              clear k2' ek ht2 hk0 k Q
              go_upto_region 11 with fail
              go_still_tail 13, (by kernel_rfl)
              change wpList _ _ _ _ _ wr.drew
              go_wp2_with fail
              go_roundw
              case rel => exact ⟨j + 1, by omega, by go_num, by rw [HR.out, HE.out]; exact val_int (by omega), k2, Q2, F2⟩
              case measure => simp [Go.RowKit.intOf]; omega
            · have hk64 : c.kept (s.rank j) = 64 := by
                rw [HRJ.out, HC.out]; unfold Cr.kept
                rw [if_neg ht, if_pos ⟨by omega, by show bit keep ρ = true; rw [HQ.out]; rfl⟩]
              have k2 := k
              rw [← St.upto_same HOK.out HD.out hk64] at k2
              clear k hk64
              go_wp2_with fail
              go_roundw
              case rel => exact ⟨j + 1, by omega, by go_num, by rw [HR.out, HE.out]; exact val_int (by omega), k2, Q, HF.out⟩
              case measure => simp [Go.RowKit.intOf]; omega
    · obtain rfl : j = n := by omega
      have hlI : ¬ (j : Int) < (j : Int) := by omega
      have hall := HALL.out
      rw [HN.out] at hall
      go_wp2_with (go_at_call 16; refine (rsync_any _ k).mono ?_; rintro e w8 ⟨rfl, k8, F8⟩)
      go_ret
      rw [hall] at k8
      exact ⟨rfl, k8, F.trans F8⟩
end
end Go.Proofs.Ytabecmbeenmjaaa.DiskW
