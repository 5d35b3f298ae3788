/-
  The program's disk: a sync; how many bytes a crash keeps.
-/
import Derived.Test.YtabecmbeenmjaaaDkOwnD
import Derived.Test.YtabecmbeenmjaaaDkBits
namespace Go.Proofs.Ytabecmbeenmjaaa.DiskW
open Go.RowKit WideW Go.Maps Go.MapKept Go.ChangeMaps
open Go.WideElems (Fit rd rg pl)
set_option linter.all false
variable {w : World} {d h m : Nat} {s : St}

theorem clear_map (k : MapIs w m s) : ∃ w1, (∀ ty, (Builtin.clear_ #[58] ty #[.map (some m)]).run Try.prog w = .ok (.tuple #[]) w1) ∧ MapIs w1 m s.sync ∧ w.grownBy w1 (some m) := by
  obtain ⟨D, ⟨es, clock, hb, F, hs, hD⟩, hk⟩ := k
  refine ⟨setBlock w m (.map #[] clock), fun ty => by simp [Builtin.clear_, run_underlying Try.underlying58, MapKept.run_getObj_map hb, MapKept.run_setObj_map _ hb, setBlock, Result.andThen], ?_, ⟨rfl, rfl, rfl, by simp [setBlock], fun i _ hi => heap_setBlock_other hb _ (fun e => hi (by rw [e]))⟩⟩
  refine ⟨.map [], ⟨#[], clock, heap_setBlock_same hb _, ⟨by simp, stamped_empty _, by simp⟩, by simp, rfl⟩, fun k => ?_, fun j hj => ?_⟩
  · simp [Maps.has, St.sync]
  · simp [St.sync] at hj

set_option maxRecDepth 100000 in
set_option maxHeartbeats 400000 in
theorem sync_any (w : World) (k : Dk w d h m s) :
    Calls Try.prog 15 #[.pointer (some ⟨d, 0, none⟩)] w fun e w' => e = .returned (.int .i64 0) ∧ Dk w' d h m s.sync ∧ Fr (In3 d h m) w w' := by
  have c3 := k.c3
  obtain ⟨w1, hcl, hm1, hg1⟩ := clear_map k.mp
  have F1 : Fr (In3 d h m) w w1 := Fr.of_grown hg1 fun k e => by cases e; exact .inr (.inr rfl)
  have b1 := k.blk.grown hg1 (by have := k.d_ne_m; simpa using this)
  have r1 : Row w1 h 74 (64 * s.n) (sc s.now) := row_block k.row (hg1.block h k.h_lt (by have := k.h_ne_m; simpa using this))
  go_enter Try.func15, Try.ntmps15
  go_wp2_with (go_at_call 24; refine (store_any d 1 0 _ _ (by rw [b1.cell]; rfl) (b1.frozen 1)).mono ?_; rintro e w' ⟨rfl, rfl⟩)
  go_ret
  refine ⟨rfl, ⟨k.ok.sync, ?_, r1.far (by show h ≠ d; exact k.d_ne_h.symm) _, hm1.block (Below.heap_setCell _ _ _ _ k.d_ne_m.symm)⟩, F1.trans (Fr.of_set _ (.inl rfl) _)⟩
  rw [St.cnt_sync]
  exact b1.set_ 1 _

set_option maxRecDepth 100000 in
set_option maxHeartbeats 400000 in
theorem kept_any (w : World) (c : Cr) (i : Nat) (hi : i < 1024) (hk : (Lit.int .i64 c.keep).wf = true) (hb : 0 ≤ c.bytes) :
    Calls Try.prog 29 #[.agg #[.int .i64 c.keep, .int .i64 c.torn, .int .i64 c.bytes], .int .i64 (i : Int)] w fun e w' => e = .returned (.int .i64 (c.kept i : Int)) ∧ Below w.heap.size w w' := by
  obtain ⟨keep, torn, bytes⟩ := c
  by_cases h1 : (i : Int) = torn
  · go_enter Try.func29, Try.ntmps29
    go_wp2
    go_ret
    refine ⟨ret_int ?_, Ba B0⟩
    unfold Cr.kept
    rw [if_pos h1]
    show bytes = (bytes.toNat : Int)
    have : (0 : Int) ≤ bytes := hb
    omega
  · by_cases h2 : i < 62
    · have h2' : (i : Int) < 62 := by omega
      obtain ⟨q, hq⟩ : ∃ q, bits .and .i64 (keep / 2 ^ i) 1 = q := ⟨_, rfl⟩
      have hq2 : keep / 2 ^ i % 2 = q := by rw [← hq, and1]
      have hq3 : Hid (bit keep i = decide (q = 1)) := Lib.hid (by unfold bit; rw [hq2])
      clear hq2
      by_cases h3 : q = 1
      · subst h3
        go_enter Try.func29, Try.ntmps29
        go_wp2
        go_ret
        refine ⟨ret_int ?_, Ba B0⟩
        unfold Cr.kept
        rw [if_neg h1, if_pos ⟨h2, by show bit keep i = true; rw [hq3.out]; rfl⟩]
        rfl
      · go_enter Try.func29, Try.ntmps29
        go_wp2
        go_ret
        refine ⟨ret_int ?_, Ba B0⟩
        unfold Cr.kept
        rw [if_neg h1, if_neg (fun e => by have e2 : bit keep i = true := e.2; rw [hq3.out] at e2; simp at e2; exact h3 e2)]
        rfl
    · have h2' : ¬ (i : Int) < 62 := by omega
      go_enter Try.func29, Try.ntmps29
      go_wp2
      go_ret
      refine ⟨ret_int ?_, Ba B0⟩
      unfold Cr.kept
      rw [if_neg h1, if_neg (by omega)]
      rfl
end Go.Proofs.Ytabecmbeenmjaaa.DiskW
