/-
  The foremost of one of a heap and those below it.
-/
import Derived.Test.YtiboonkegjahaaaGreatTrePush
namespace Go.Proofs.YtiboonkegjahaaaGreat.TreW
open Go.RowKit WideW IntW CovW SlW IdxW
set_option linter.all false

def FrMid (l : List Sg) (a k b : Nat) : Prop := (b = a ∨ ((b = 2 * a + 1 ∨ b = 2 * a + 2) ∧ b < l.length ∧ Nlt (kAt l b) (kAt l a))) ∧ ∀ j, j < k → 2 * a + 1 + j < l.length → Kle (kAt l b) (kAt l (2 * a + 1 + j))
theorem nlt_trans {x y z : Nat × Int} (h : Nlt x y) (k : Nlt y z) : Nlt x z := by
  unfold Nlt at *
  omega
theorem FrMid.off {l : List Sg} {a k b : Nat} (h : FrMid l a k b) (hd : ¬ 2 * a + 1 + k < l.length) : FrMid l a (k + 1) b :=
  ⟨h.1, fun j hj hl => h.2 j (by omega) hl⟩
theorem FrMid.yes {l : List Sg} {a k b : Nat} (h : FrMid l a k b) (hk : k < 2) (hd : 2 * a + 1 + k < l.length) (hn : Nlt (kAt l (2 * a + 1 + k)) (kAt l b)) : FrMid l a (k + 1) (2 * a + 1 + k) := by
  refine ⟨.inr ⟨by omega, hd, ?_⟩, fun j hj hl => ?_⟩
  · rcases h.1 with rfl | ⟨-, -, h1⟩
    · exact hn
    · exact nlt_trans hn h1
  · by_cases e : j = k
    · subst e; exact Kle.refl _
    · exact (Kle.of_lt hn).trans (h.2 j (by omega) hl)
theorem FrMid.no {l : List Sg} {a k b : Nat} (h : FrMid l a k b) (hn : ¬ Nlt (kAt l (2 * a + 1 + k)) (kAt l b)) : FrMid l a (k + 1) b := by
  refine ⟨h.1, fun j hj hl => ?_⟩
  by_cases e : j = k
  · subst e; exact hn
  · exact h.2 j (by omega) hl
theorem FrMid.fore {l : List Sg} {a b : Nat} (h : FrMid l a 2 b) : Fore l a b := by
  refine ⟨h.1, fun i h0 hi hp => ?_⟩
  have : i = 2 * a + 1 + (i - (2 * a + 1)) := by unfold par at hp; omega
  rw [this]
  exact h.2 _ (by unfold par at hp; omega) (by omega)
theorem FrMid.lt {l : List Sg} {a k b : Nat} (h : FrMid l a k b) (ha : a ≤ 1000000) : b ≤ 2000002 := by
  rcases h.1 with rfl | ⟨h1 | h1, -⟩ <;> omega
theorem FrMid.in_ {l : List Sg} {a k b : Nat} (h : FrMid l a k b) (hk : k < 2) (hd : 2 * a + 1 + k < l.length) : b < l.length := by
  rcases h.1 with rfl | ⟨-, h1, -⟩
  · omega
  · exact h1
set_option maxRecDepth 100000 in
set_option maxHeartbeats 8000000 in
theorem fore_any (v : Value) (l : List Sg) (a : Nat) (w : World) (hr : SRow w v l) (hl : l.length ≤ 1000000) (ha : a ≤ 1000000) (hok : ∀ s ∈ l, s.Ok) :
    Calls Tryz.prog 93 #[v, .int .i64 a, .func (.func 47) #[] #[]] w (fun E w' => ∃ b : Nat, E = .returned (.int .i64 b) ∧ Fore l a b ∧ Below w.heap.size w w') := by
  obtain ⟨A, c, rfl⟩ := hr.form
  obtain ⟨N, hN⟩ : ∃ N, l.length = N := ⟨_, rfl⟩
  have HR := Lib.hid hr
  rw [hN] at hl HR ⊢
  have HN := Lib.hid hN
  have HO := Lib.hid hok
  have HS0 : Hid (FrMid l a 0 a) := Lib.hid ⟨.inl rfl, fun j hj => by omega⟩
  obtain ⟨D, hD⟩ : ∃ D, w.heap.size = D := ⟨_, rfl⟩
  have HDD := Lib.hid hD
  have HBK := Lib.hid (Blk.new' w 3 #[.int .i64 (2 * (a : Int) + 1), .int .i64 (2 * (a : Int) + 2)] hD.symm)
  have HB1 : Hid (Below w.heap.size w (w.alloc (.cells #[.int .i64 (2 * (a : Int) + 1), .int .i64 (2 * (a : Int) + 2)] 3))) := Lib.hid (Ba B0)
  clear hr hN hok
  go_enter Tryz.func93, Tryz.ntmps93
  go_wp2_with fail
  try rw [hD]
  clear hD
  generalize w.alloc (.cells #[.int .i64 (2 * (a : Int) + 1), .int .i64 (2 * (a : Int) + 2)] 3) = w1 at *
  go_loopw [7, 19] (fun b i W => ∃ bb k : Nat, b = .int .i64 bb ∧ i = .int .i64 k ∧ k ≤ 2 ∧ Hid (FrMid l a k bb) ∧ Hid (Below w1.heap.size w1 W)) (fun _ i _ => 2 - (Go.RowKit.intOf i).toNat)
  case atStart => exact ⟨a, 0, rfl, rfl, by omega, HS0, Lib.hid B0⟩
  case round =>
    clear HS0
    obtain ⟨p, k, rfl, rfl, hk, HF, HB⟩ := hrel
    have hpx := HF.out.lt ha
    by_cases hlt : k < 2
    case neg =>
      obtain rfl : k = 2 := by omega
      have HO2 := Lib.hid HF.out.fore
      clear HF
      go_wp2_with fail
      exact bodyPost_ret (v := .int .i64 p) (by simp [results, Tryz.results93, go_sem]) rfl ⟨p, rfl, HO2.out, Bt HB1.out HB.out⟩
    case pos =>
      obtain ⟨d, hd⟩ : ∃ d, 2 * a + 1 + k = d := ⟨_, rfl⟩
      have hdx : d ≤ 2000002 := by omega
      have dk : wr.cell? ⟨D, k, none⟩ = some (.int .i64 (d : Int)) := by
        have bk := HBK.out.keep HB.out
        rw [bk.cell]
        rcases Nat.lt_or_ge k 1 with h | h
        · obtain rfl : k = 0 := by omega
          have : (d : Int) = 2 * (a : Int) + 1 := by omega
          simp [this]
        · obtain rfl : k = 1 := by omega
          have : (d : Int) = 2 * (a : Int) + 2 := by omega
          simp [this]
      have HD := Lib.hid hd
      clear hd
      by_cases hdN : d < N
      case neg =>
        have HF2 : Hid (FrMid l a (k + 1) p) := Lib.hid (HF.out.off (by rw [HD.out, HN.out]; exact hdN))
        have hdd : decide ((d : Int) < (N : Int)) = false := by simp; omega
        go_upto_region 5 with fail
        refine HeldY.wp_region_X (S := (fun w' => True)) (by kernel_rfl) trivial (fun hHeld => ?_)
        refine HeldY.wpAnyX_take (i := 0) (v := (.int .i64 d)) rfl (by kernel_rfl) (by kernel_rfl) (by kernel_rfl) (by kernel_rfl) (fun _ _ _ h => h) (Or.inl ⟨by rfl, fun w hSw => by (try dsimp only at hSw); go_simp⟩) (by assumption) ?_
        try simp only [List.getElem_toArray, List.getElem_cons_zero, List.getElem_cons_succ, Act.put, List.setIfInBounds_toArray, List.set_cons_zero, List.set_cons_succ]
        refine HeldY.wpAnyX_take (i := 1) (v := (.slice A N c)) rfl (by kernel_rfl) (by kernel_rfl) (by kernel_rfl) (by kernel_rfl) (fun _ _ _ h => h) (Or.inl ⟨by rfl, fun w hSw => by (try dsimp only at hSw); go_simp⟩) (by assumption) ?_
        try simp only [List.getElem_toArray, List.getElem_cons_zero, List.getElem_cons_succ, Act.put, List.setIfInBounds_toArray, List.set_cons_zero, List.set_cons_succ]
        refine HeldY.wpAnyX_take (i := 2) (v := (.int .i64 N)) rfl (by kernel_rfl) (by kernel_rfl) (by kernel_rfl) (by kernel_rfl) (fun _ _ _ h => h) (Or.inl ⟨by rfl, fun w hSw => by (try dsimp only at hSw); go_simp⟩) (by assumption) ?_
        try simp only [List.getElem_toArray, List.getElem_cons_zero, List.getElem_cons_succ, Act.put, List.setIfInBounds_toArray, List.set_cons_zero, List.set_cons_succ]
        refine HeldY.wpAnyX_take (i := 3) (v := (.bool false)) rfl (by kernel_rfl) (by kernel_rfl) (by kernel_rfl) (by kernel_rfl) (fun _ _ _ h => h) (Or.inl ⟨by rfl, fun w hSw => by (try dsimp only at hSw); go_simp⟩) (by assumption) ?_
        try simp only [List.getElem_toArray, List.getElem_cons_zero, List.getElem_cons_succ, Act.put, List.setIfInBounds_toArray, List.set_cons_zero, List.set_cons_succ]
        refine HeldY.wpAnyX_take (i := 4) (v := (.bool false)) rfl (by kernel_rfl) (by kernel_rfl) (by kernel_rfl) (by kernel_rfl) (fun _ _ _ h => h) (Or.inl ⟨by rfl, fun w hSw => by (try dsimp only at hSw); go_simp⟩) (by assumption) ?_
        try simp only [List.getElem_toArray, List.getElem_cons_zero, List.getElem_cons_succ, Act.put, List.setIfInBounds_toArray, List.set_cons_zero, List.set_cons_succ]
        refine HeldY.wpAnyX_take (i := 5) (v := undef) rfl (by kernel_rfl) (by kernel_rfl) (by kernel_rfl) (by kernel_rfl) (fun _ _ _ h => h) (Or.inr ⟨by rfl, rfl⟩) (by assumption) ?_
        try simp only [List.getElem_toArray, List.getElem_cons_zero, List.getElem_cons_succ, Act.put, List.setIfInBounds_toArray, List.set_cons_zero, List.set_cons_succ]
        refine HeldY.wpAnyX_take (i := 6) (v := undef) rfl (by kernel_rfl) (by kernel_rfl) (by kernel_rfl) (by kernel_rfl) (fun _ _ _ h => h) (Or.inr ⟨by rfl, rfl⟩) (by assumption) ?_
        try simp only [List.getElem_toArray, List.getElem_cons_zero, List.getElem_cons_succ, Act.put, List.setIfInBounds_toArray, List.set_cons_zero, List.set_cons_succ]
        refine HeldY.wpAnyX_take (i := 7) (v := undef) rfl (by kernel_rfl) (by kernel_rfl) (by kernel_rfl) (by kernel_rfl) (fun _ _ _ h => h) (Or.inr ⟨by rfl, rfl⟩) (by assumption) ?_
        try simp only [List.getElem_toArray, List.getElem_cons_zero, List.getElem_cons_succ, Act.put, List.setIfInBounds_toArray, List.set_cons_zero, List.set_cons_succ]
        refine HeldY.wpAnyX_take (i := 8) (v := undef) rfl (by kernel_rfl) (by kernel_rfl) (by kernel_rfl) (by kernel_rfl) (fun _ _ _ h => h) (Or.inr ⟨by rfl, rfl⟩) (by assumption) ?_
        try simp only [List.getElem_toArray, List.getElem_cons_zero, List.getElem_cons_succ, Act.put, List.setIfInBounds_toArray, List.set_cons_zero, List.set_cons_succ]
        refine HeldY.wpAnyX_take (i := 9) (v := undef) rfl (by kernel_rfl) (by kernel_rfl) (by kernel_rfl) (by kernel_rfl) (fun _ _ _ h => h) (Or.inr ⟨by rfl, rfl⟩) (by assumption) ?_
        try simp only [List.getElem_toArray, List.getElem_cons_zero, List.getElem_cons_succ, Act.put, List.setIfInBounds_toArray, List.set_cons_zero, List.set_cons_succ]
        refine HeldY.wpAnyX_take (i := 10) (v := undef) rfl (by kernel_rfl) (by kernel_rfl) (by kernel_rfl) (by kernel_rfl) (fun _ _ _ h => h) (Or.inr ⟨by rfl, rfl⟩) (by assumption) ?_
        try simp only [List.getElem_toArray, List.getElem_cons_zero, List.getElem_cons_succ, Act.put, List.setIfInBounds_toArray, List.set_cons_zero, List.set_cons_succ]
        refine HeldY.wpAnyX_take (i := 11) (v := undef) rfl (by kernel_rfl) (by kernel_rfl) (by kernel_rfl) (by kernel_rfl) (fun _ _ _ h => h) (Or.inr ⟨by rfl, rfl⟩) (by assumption) ?_
        try simp only [List.getElem_toArray, List.getElem_cons_zero, List.getElem_cons_succ, Act.put, List.setIfInBounds_toArray, List.set_cons_zero, List.set_cons_succ]
        refine HeldY.wpAnyX_take (i := 12) (v := undef) rfl (by kernel_rfl) (by kernel_rfl) (by kernel_rfl) (by kernel_rfl) (fun _ _ _ h => h) (Or.inr ⟨by rfl, rfl⟩) (by assumption) ?_
        try simp only [List.getElem_toArray, List.getElem_cons_zero, List.getElem_cons_succ, Act.put, List.setIfInBounds_toArray, List.set_cons_zero, List.set_cons_succ]
        refine HeldY.wpAnyX_take (i := 13) (v := undef) rfl (by kernel_rfl) (by kernel_rfl) (by kernel_rfl) (by kernel_rfl) (fun _ _ _ h => h) (Or.inr ⟨by rfl, rfl⟩) (by assumption) ?_
        try simp only [List.getElem_toArray, List.getElem_cons_zero, List.getElem_cons_succ, Act.put, List.setIfInBounds_toArray, List.set_cons_zero, List.set_cons_succ]
        refine HeldY.wpAnyX_take (i := 14) (v := undef) rfl (by kernel_rfl) (by kernel_rfl) (by kernel_rfl) (by kernel_rfl) (fun _ _ _ h => h) (Or.inr ⟨by rfl, rfl⟩) (by assumption) ?_
        try simp only [List.getElem_toArray, List.getElem_cons_zero, List.getElem_cons_succ, Act.put, List.setIfInBounds_toArray, List.set_cons_zero, List.set_cons_succ]
        refine HeldY.wpAnyX_take (i := 15) (v := (.bool false)) rfl (by kernel_rfl) (by kernel_rfl) (by kernel_rfl) (by kernel_rfl) (fun _ _ _ h => h) (Or.inl ⟨by rfl, fun w hSw => by (try dsimp only at hSw); go_simp⟩) (by assumption) ?_
        try simp only [List.getElem_toArray, List.getElem_cons_zero, List.getElem_cons_succ, Act.put, List.setIfInBounds_toArray, List.set_cons_zero, List.set_cons_succ]
        refine ⟨by kernel_rfl, ?_⟩
        have HB2 := Lib.hid (Bd HB.out)
        clear hHeld HF dk
        go_wp2_with fail
        go_roundw
        case rel => exact ⟨p, k + 1, rfl, by go_num, by omega, HF2, HB2⟩
        case measure => simp [Go.RowKit.intOf]; omega
      case pos =>
        have hpN : p < N := by rw [← HN.out]; exact HF.out.in_ hlt (by rw [HD.out, HN.out]; exact hdN)
        have SBR := (HR.out.keep (Bt HB1.out HB.out)).at (i := 0) (by rw [HN.out]; omega)
        obtain ⟨g, c', e1, hsb⟩ := SBR
        rw [HN.out] at e1 hsb
        simp only [Value.slice.injEq] at e1
        obtain ⟨rfl, -, rfl⟩ := e1
        have u := hsb.cell hdN
        have v := hsb.cell hpN
        have okd := HO.out _ (sgAt_mem (l := l) (i := d) (by rw [HN.out]; exact hdN))
        have okp := HO.out _ (sgAt_mem (l := l) (i := p) (by rw [HN.out]; exact hpN))
        obtain ⟨r, hr⟩ := has_bool (Nlt (kAt l d) (kAt l p))
        have AH := fun W => ahead_any (sgAt l d) (sgAt l p) r W okd okp hr
        have HYES : Hid (Nlt (kAt l d) (kAt l p) → FrMid l a (k + 1) d) := Lib.hid (by
          have := fun h => HF.out.yes hlt h
          rw [HD.out, HN.out] at this
          exact this hdN)
        have HNO : Hid (¬ Nlt (kAt l d) (kAt l p) → FrMid l a (k + 1) p) := Lib.hid (by
          have := HF.out.no
          rw [HD.out] at this
          exact this)
        have HRR := Lib.hid (hr.out)
        clear hr
        generalize hza : sgAt l d = za at *
        generalize hzp : sgAt l p = zp at *
        clear hza hzp
        obtain ⟨⟨ai, aa, ab, ac, ad, an⟩, ah, al⟩ := za
        obtain ⟨⟨pi, pa', pb, pc, pd, pn⟩, ph, pl⟩ := zp
        unfold sgv at AH
        dsimp only at *
        generalize pa an = pan at *
        generalize pa pn = ppn at *
        have hS := And.intro u v
        clear u v okd okp hsb HF
        go_upto_region 5 with fail
        refine HeldY.wp_region_X (S := (fun w' => (w'.cell? ⟨g, d * 8, none⟩ = some (.int .i64 ai) ∧ w'.cell? ⟨g, d * 8 + 1, none⟩ = some (.int .i64 aa) ∧ w'.cell? ⟨g, d * 8 + 2, none⟩ = some (.int .i64 ab) ∧ w'.cell? ⟨g, d * 8 + 3, none⟩ = some (.int .i64 ac) ∧ w'.cell? ⟨g, d * 8 + 4, none⟩ = some (.int .i64 ad) ∧ w'.cell? ⟨g, d * 8 + 5, none⟩ = some (.pointer pan) ∧ w'.cell? ⟨g, d * 8 + 6, none⟩ = some (.int .u64 ah) ∧ w'.cell? ⟨g, d * 8 + 7, none⟩ = some (.int .u64 al)) ∧ (w'.cell? ⟨g, p * 8, none⟩ = some (.int .i64 pi) ∧ w'.cell? ⟨g, p * 8 + 1, none⟩ = some (.int .i64 pa') ∧ w'.cell? ⟨g, p * 8 + 2, none⟩ = some (.int .i64 pb) ∧ w'.cell? ⟨g, p * 8 + 3, none⟩ = some (.int .i64 pc) ∧ w'.cell? ⟨g, p * 8 + 4, none⟩ = some (.int .i64 pd) ∧ w'.cell? ⟨g, p * 8 + 5, none⟩ = some (.pointer ppn) ∧ w'.cell? ⟨g, p * 8 + 6, none⟩ = some (.int .u64 ph) ∧ w'.cell? ⟨g, p * 8 + 7, none⟩ = some (.int .u64 pl)))) (by kernel_rfl) ⟨kq8 (Bd B0) hS.1, kq8 (Bd B0) hS.2⟩ (fun hHeld => ?_)
        refine HeldY.wpAnyX_take (i := 0) (v := (.int .i64 d)) rfl (by kernel_rfl) (by kernel_rfl) (by kernel_rfl) (by kernel_rfl) (fun _ _ _ h => h) (Or.inl ⟨by rfl, fun w hSw => by (try dsimp only at hSw); go_simp⟩) (by assumption) ?_
        try simp only [List.getElem_toArray, List.getElem_cons_zero, List.getElem_cons_succ, Act.put, List.setIfInBounds_toArray, List.set_cons_zero, List.set_cons_succ]
        refine HeldY.wpAnyX_take (i := 1) (v := (.slice (some ⟨g, 0, none⟩) N c)) rfl (by kernel_rfl) (by kernel_rfl) (by kernel_rfl) (by kernel_rfl) (fun _ _ _ h => h) (Or.inl ⟨by rfl, fun w hSw => by (try dsimp only at hSw); go_simp⟩) (by assumption) ?_
        try simp only [List.getElem_toArray, List.getElem_cons_zero, List.getElem_cons_succ, Act.put, List.setIfInBounds_toArray, List.set_cons_zero, List.set_cons_succ]
        refine HeldY.wpAnyX_take (i := 2) (v := (.int .i64 N)) rfl (by kernel_rfl) (by kernel_rfl) (by kernel_rfl) (by kernel_rfl) (fun _ _ _ h => h) (Or.inl ⟨by rfl, fun w hSw => by (try dsimp only at hSw); go_simp⟩) (by assumption) ?_
        try simp only [List.getElem_toArray, List.getElem_cons_zero, List.getElem_cons_succ, Act.put, List.setIfInBounds_toArray, List.set_cons_zero, List.set_cons_succ]
        refine HeldY.wpAnyX_take (i := 3) (v := (.bool true)) rfl (by kernel_rfl) (by kernel_rfl) (by kernel_rfl) (by kernel_rfl) (fun _ _ _ h => h) (Or.inl ⟨by rfl, fun w hSw => by (try dsimp only at hSw); go_simp⟩) (by assumption) ?_
        try simp only [List.getElem_toArray, List.getElem_cons_zero, List.getElem_cons_succ, Act.put, List.setIfInBounds_toArray, List.set_cons_zero, List.set_cons_succ]
        refine HeldY.wpAnyX_take (i := 4) (v := (.bool true)) rfl (by kernel_rfl) (by kernel_rfl) (by kernel_rfl) (by kernel_rfl) (fun _ _ _ h => h) (Or.inl ⟨by rfl, fun w hSw => by (try dsimp only at hSw); go_simp⟩) (by assumption) ?_
        try simp only [List.getElem_toArray, List.getElem_cons_zero, List.getElem_cons_succ, Act.put, List.setIfInBounds_toArray, List.set_cons_zero, List.set_cons_succ]
        refine HeldY.wpAnyX_take (i := 5) (v := (.func (.func 47) #[] #[])) rfl (by kernel_rfl) (by kernel_rfl) (by kernel_rfl) (by kernel_rfl) (fun _ _ _ h => h) (Or.inl ⟨by rfl, fun w hSw => by (try dsimp only at hSw); go_simp⟩) (by assumption) ?_
        try simp only [List.getElem_toArray, List.getElem_cons_zero, List.getElem_cons_succ, Act.put, List.setIfInBounds_toArray, List.set_cons_zero, List.set_cons_succ]
        refine HeldY.wpAnyX_take (i := 6) (v := (.slice (some ⟨g, 0, none⟩) N c)) rfl (by kernel_rfl) (by kernel_rfl) (by kernel_rfl) (by kernel_rfl) (fun _ _ _ h => h) (Or.inl ⟨by rfl, fun w hSw => by (try dsimp only at hSw); go_simp⟩) (by assumption) ?_
        try simp only [List.getElem_toArray, List.getElem_cons_zero, List.getElem_cons_succ, Act.put, List.setIfInBounds_toArray, List.set_cons_zero, List.set_cons_succ]
        refine HeldY.wpAnyX_take (i := 7) (v := (.int .i64 d)) rfl (by kernel_rfl) (by kernel_rfl) (by kernel_rfl) (by kernel_rfl) (fun _ _ _ h => h) (Or.inl ⟨by rfl, fun w hSw => by (try dsimp only at hSw); go_simp⟩) (by assumption) ?_
        try simp only [List.getElem_toArray, List.getElem_cons_zero, List.getElem_cons_succ, Act.put, List.setIfInBounds_toArray, List.set_cons_zero, List.set_cons_succ]
        refine HeldY.wpAnyX_take (i := 8) (v := (.pointer (some ⟨g, d * 8, none⟩))) rfl (by kernel_rfl) (by kernel_rfl) (by kernel_rfl) (by kernel_rfl) (fun _ _ _ h => h) (Or.inl ⟨by rfl, fun w hSw => by (try dsimp only at hSw); go_simp⟩) (by assumption) ?_
        try simp only [List.getElem_toArray, List.getElem_cons_zero, List.getElem_cons_succ, Act.put, List.setIfInBounds_toArray, List.set_cons_zero, List.set_cons_succ]
        refine HeldY.wpAnyX_take (i := 9) (v := (.agg #[.int .i64 ai, .int .i64 aa, .int .i64 ab, .int .i64 ac, .int .i64 ad, .pointer pan, .int .u64 ah, .int .u64 al])) rfl (by kernel_rfl) (by kernel_rfl) (by kernel_rfl) (by kernel_rfl) (fun _ _ _ h => h) (Or.inl ⟨by rfl, fun w hSw => by (try dsimp only at hSw); go_simp⟩) (by assumption) ?_
        try simp only [List.getElem_toArray, List.getElem_cons_zero, List.getElem_cons_succ, Act.put, List.setIfInBounds_toArray, List.set_cons_zero, List.set_cons_succ]
        refine HeldY.wpAnyX_take (i := 10) (v := (.slice (some ⟨g, 0, none⟩) N c)) rfl (by kernel_rfl) (by kernel_rfl) (by kernel_rfl) (by kernel_rfl) (fun _ _ _ h => h) (Or.inl ⟨by rfl, fun w hSw => by (try dsimp only at hSw); go_simp⟩) (by assumption) ?_
        try simp only [List.getElem_toArray, List.getElem_cons_zero, List.getElem_cons_succ, Act.put, List.setIfInBounds_toArray, List.set_cons_zero, List.set_cons_succ]
        refine HeldY.wpAnyX_take (i := 11) (v := (.int .i64 p)) rfl (by kernel_rfl) (by kernel_rfl) (by kernel_rfl) (by kernel_rfl) (fun _ _ _ h => h) (Or.inl ⟨by rfl, fun w hSw => by (try dsimp only at hSw); go_simp⟩) (by assumption) ?_
        try simp only [List.getElem_toArray, List.getElem_cons_zero, List.getElem_cons_succ, Act.put, List.setIfInBounds_toArray, List.set_cons_zero, List.set_cons_succ]
        refine HeldY.wpAnyX_take (i := 12) (v := (.pointer (some ⟨g, p * 8, none⟩))) rfl (by kernel_rfl) (by kernel_rfl) (by kernel_rfl) (by kernel_rfl) (fun _ _ _ h => h) (Or.inl ⟨by rfl, fun w hSw => by (try dsimp only at hSw); go_simp⟩) (by assumption) ?_
        try simp only [List.getElem_toArray, List.getElem_cons_zero, List.getElem_cons_succ, Act.put, List.setIfInBounds_toArray, List.set_cons_zero, List.set_cons_succ]
        refine HeldY.wpAnyX_take (i := 13) (v := (.agg #[.int .i64 pi, .int .i64 pa', .int .i64 pb, .int .i64 pc, .int .i64 pd, .pointer ppn, .int .u64 ph, .int .u64 pl])) rfl (by kernel_rfl) (by kernel_rfl) (by kernel_rfl) (by kernel_rfl) (fun _ _ _ h => h) (Or.inl ⟨by rfl, fun w hSw => by (try dsimp only at hSw); go_simp⟩) (by assumption) ?_
        try simp only [List.getElem_toArray, List.getElem_cons_zero, List.getElem_cons_succ, Act.put, List.setIfInBounds_toArray, List.set_cons_zero, List.set_cons_succ]
        refine HeldY.wpAnyX_step (i := 14) (by kernel_rfl) rfl (fun K hK => ?_)
        go_simp
        refine (AH _).mono ?_
        rintro _ wE ⟨rfl, hbE⟩
        have hHB := Bt (Bd (B0 (w := wr))) hbE
        have hUV := And.intro (kq8 hHB hS.1) (kq8 hHB hS.2)
        refine hK.out _ _ hUV (fun _ => ?_)
        clear hK K hbE
        try simp only [List.getElem_toArray, List.getElem_cons_zero, List.getElem_cons_succ, Act.put, List.setIfInBounds_toArray, List.set_cons_zero, List.set_cons_succ]
        refine HeldY.wpAnyX_take (i := 15) (v := (.bool r)) rfl (by kernel_rfl) (by kernel_rfl) (by kernel_rfl) (by kernel_rfl) (fun _ _ _ h => h) (Or.inl ⟨by rfl, fun w hSw => by (try dsimp only at hSw); go_simp⟩) (by assumption) ?_
        try simp only [List.getElem_toArray, List.getElem_cons_zero, List.getElem_cons_succ, Act.put, List.setIfInBounds_toArray, List.set_cons_zero, List.set_cons_succ]
        refine ⟨by kernel_rfl, ?_⟩
        have HB2 := Lib.hid (Bt HB.out hHB)
        clear hS hHeld hUV hHB AH dk
        cases r with
        | true =>
          have HF2 := Lib.hid (HYES.out (HRR.out.1 rfl))
          clear HYES HNO HRR
          go_wp2_with fail
          go_roundw
          case rel => exact ⟨d, k + 1, rfl, by go_num, by omega, HF2, HB2⟩
          case measure => simp [Go.RowKit.intOf]; omega
        | false =>
          have HF2 := Lib.hid (HNO.out (fun h => by have := HRR.out.2 h; cases this))
          clear HYES HNO HRR
          go_wp2_with fail
          go_roundw
          case rel => exact ⟨p, k + 1, rfl, by go_num, by omega, HF2, HB2⟩
          case measure => simp [Go.RowKit.intOf]; omega
end Go.Proofs.YtiboonkegjahaaaGreat.TreW
