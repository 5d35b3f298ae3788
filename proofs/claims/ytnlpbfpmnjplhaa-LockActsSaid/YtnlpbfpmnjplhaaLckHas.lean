/-
  The document's has: is an id among them?
-/
import Derived.Test.YtnlpbfpmnjplhaaInts
namespace Go.Proofs.Ytnlpbfpmnjplhaa.LckW
open Go.RowKit WideW IntW
set_option linter.all false

theorem mem_it {l : List Int} {x : Int} : x ∈ l ↔ ∃ k, k < l.length ∧ it l k = x := by
  constructor
  · intro h
    obtain ⟨k, hk, rfl⟩ := List.getElem_of_mem h
    exact ⟨k, hk, it_eq hk⟩
  · rintro ⟨k, hk, rfl⟩
    exact it_mem hk
set_option maxHeartbeats 1000000 in
theorem has_any (u : Value) (l : List Int) (x : Int) (r : Bool) (w : World) (hv : RdI w w.heap.size u l) (hr : r = true ↔ x ∈ l) :
    Calls Try.prog 24 #[u, .int .i64 x] w fun e w' => e = .returned (.bool r) ∧ Below w.heap.size w w' := by
  have HR := Lib.hid hr
  clear hr
  obtain ⟨A, c, rfl, hl, h1⟩ := hv
  have HM := Lib.hid (mem_it (l := l) (x := x))
  obtain ⟨n, hn⟩ : ∃ n, l.length = n := ⟨_, rfl⟩
  rw [hn] at hl h1 HM ⊢
  clear hn
  go_enter Try.func24, Try.ntmps24
  go_wp2_with fail
  go_loopw [5] (fun i W => ∃ k : Nat, k ≤ n ∧ i = .int .i64 k ∧ Hid (∀ j, j < k → it l j ≠ x) ∧ Below w.heap.size w W) (fun i _ => n - (intOf i).toNat)
  case atStart => exact ⟨0, Nat.zero_le _, rfl, Lib.hid (fun j hj => by omega), B0⟩
  case round =>
    obtain ⟨k, hk, rfl, HN, hF⟩ := hrel
    by_cases hkn : k < n
    case neg =>
      obtain rfl : k = n := by omega
      obtain rfl : r = false := by
        cases r
        · rfl
        · obtain ⟨j, hj, e⟩ := HM.out.1 (HR.out.1 rfl)
          exact absurd e (HN.out j hj)
      go_wp2_with fail
      go_ret
      exact ⟨rfl, hF⟩
    case pos =>
      obtain ⟨b, off, rfl, hb, hc⟩ := h1 (by omega)
      have c0 := (hF.cell (p := ⟨b, off + k, none⟩) hb).trans (hc k hkn)
      have hkI : (k : Int) < (n : Int) := by omega
      by_cases e : it l k = x
      · obtain rfl : r = true := HR.out.2 (HM.out.2 ⟨k, hkn, e⟩)
        rw [e] at c0
        clear hc h1 e
        go_wp2_with fail
        go_ret
        exact ⟨rfl, hF⟩
      · have HN2 : Hid (∀ j, j < k + 1 → it l j ≠ x) := Lib.hid (fun j hj => by
          by_cases e2 : j = k
          · rw [e2]; exact e
          · exact HN.out j (by omega))
        obtain ⟨y, hy⟩ : ∃ y, it l k = y := ⟨_, rfl⟩
        rw [hy] at c0 e
        clear hc h1 hy HN
        go_wp2_with fail
        exact ⟨⟨k + 1, by omega, by simp only [Int.natCast_add, Int.cast_ofNat_Int], HN2, hF⟩, by simp [intOf]; omega⟩
end Go.Proofs.Ytnlpbfpmnjplhaa.LckW
