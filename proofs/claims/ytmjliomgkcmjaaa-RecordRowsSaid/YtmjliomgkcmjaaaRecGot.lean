/-
  What a reader of bytes got, as against what is there; plain facts.
-/
import Derived.Test.YtmjliomgkcmjaaaRecMath
namespace Go.Proofs.Ytmjliomgkcmjaaa.RecW
open Go.RowKit Shp Geom IntW WideW
set_option linter.all false

/-- What was read out of s is x, and s' is left, if there is what g reads. -/
def Got {α : Type} (g : Byts → Option (α × Byts)) (s : Byts) (x : α) (s' : Byts) : Prop := ∀ p, g s = some p → (x, s') = p
theorem Got.val {α : Type} {g : Byts → Option (α × Byts)} {s s' t : Byts} {x y : α} (h : Got g s x s') (e : g s = some (y, t)) : y = x ∧ t = s' := by
  have := h _ e
  simp only [Prod.mk.injEq] at this
  exact ⟨this.1.symm, this.2.symm⟩
theorem Got.map {α β : Type} {g : Byts → Option (α × Byts)} {s s' : Byts} {x : α} (h : Got g s x s') (f : α → β) : Got (fun s => (g s).map fun b => (f b.1, b.2)) s (f x) s' := by
  intro p hp
  rw [Option.map_eq_some_iff] at hp
  obtain ⟨⟨y, t⟩, e, rfl⟩ := hp
  obtain ⟨rfl, rfl⟩ := h.val e
  rfl
theorem Got.bind {α β : Type} {g : Byts → Option (α × Byts)} {k : α → Byts → Option (β × Byts)} {s s' s'' : Byts} {x : α} {y : β} (h : Got g s x s') (h2 : Got (k x) s' y s'') : Got (fun s => (g s).bind fun a => k a.1 a.2) s y s'' := by
  intro p hp
  rw [Option.bind_eq_some_iff] at hp
  obtain ⟨⟨z, t⟩, e, e2⟩ := hp
  obtain ⟨rfl, rfl⟩ := h.val e
  exact h2 _ e2
theorem Got.many0 {α : Type} (g : Byts → Option (α × Byts)) (s : Byts) : Got (gMany g 0) s [] s := by
  intro p hp
  simp only [gMany, Option.some.injEq] at hp
  exact hp
theorem Got.many {α : Type} {g : Byts → Option (α × Byts)} {k : Nat} {s s' s'' : Byts} {l : List α} {x : α} (h : Got (gMany g k) s l s') (h2 : Got g s' x s'') : Got (gMany g (k + 1)) s (l ++ [x]) s'' := by
  have := Got.bind (k := fun l t => (g t).map fun b => (l ++ [b.1], b.2)) h (h2.map (fun x => l ++ [x]))
  exact this
theorem Got.same {α : Type} {g g' : Byts → Option (α × Byts)} {s s' : Byts} {x : α} (h : Got g s x s') (e : g' s = g s) : Got g' s x s' := fun p hp => h p (e ▸ hp)
theorem got_pt {s s1 s2 : Byts} {x y : Int} (h1 : Got (gNum 4) s x s1) (h2 : Got (gNum 4) s1 y s2) : Got gPt s (x, y) s2 := by
  intro p hp
  unfold gPt at hp
  simp only [Option.bind_eq_some_iff, Option.map_eq_some_iff] at hp
  obtain ⟨⟨a, t⟩, e1, ⟨b, t2⟩, e2, rfl⟩ := hp
  obtain ⟨rfl, rfl⟩ := h1.val e1
  obtain ⟨rfl, rfl⟩ := h2.val e2
  rfl
theorem got_name {s s1 s2 : Byts} {x y : Int} (h1 : Got (gNum 1) s x s1) (h2 : Got (gNum 2) s1 y s2) : Got gName s (x, y) s2 := by
  intro p hp
  unfold gName at hp
  simp only [Option.bind_eq_some_iff, Option.map_eq_some_iff] at hp
  obtain ⟨⟨a, t⟩, e1, ⟨b, t2⟩, e2, rfl⟩ := hp
  obtain ⟨rfl, rfl⟩ := h1.val e1
  obtain ⟨rfl, rfl⟩ := h2.val e2
  rfl
theorem got_ring {s s1 s2 : Byts} {n : Nat} {l : List P2} (h1 : Got (gNum 1) s n s1) (h2 : Got (gMany gPt n) s1 l s2) : Got gRing s l s2 := by
  intro p hp
  unfold gRing at hp
  simp only [Option.bind_eq_some_iff] at hp
  obtain ⟨⟨a, t⟩, e1, e2⟩ := hp
  obtain ⟨rfl, rfl⟩ := h1.val e1
  exact h2 _ e2
theorem got_ops {s s1 s2 : Byts} {n : Nat} {l : List OpV} (h1 : Got (gNum 1) s n s1) (h2 : Got (gMany gOp n) s1 l s2) : Got gOps s l s2 := by
  intro p hp
  unfold gOps at hp
  simp only [Option.bind_eq_some_iff] at hp
  obtain ⟨⟨a, t⟩, e1, e2⟩ := hp
  obtain ⟨rfl, rfl⟩ := h1.val e1
  exact h2 _ e2
theorem got_bool {s s1 : Byts} {x : Int} {c : Bool} (h1 : Got (gNum 1) s x s1) (h2 : c = decide (x = 1)) : Got gBool s c s1 := by
  intro p hp
  unfold gBool at hp
  simp only [Option.bind_eq_some_iff] at hp
  obtain ⟨⟨a, t⟩, e1, e2⟩ := hp
  obtain ⟨rfl, rfl⟩ := h1.val e1
  dsimp only at e2
  split at e2
  · simp only [Option.some.injEq] at e2
    rw [← e2, h2]
  · simp at e2
theorem got_feat {s s1 s2 s3 s4 : Byts} {a b : Int} {n : Nat} {l : List (List P2)} (h1 : Got (gNum 2) s a s1) (h2 : Got (gNum 1) s1 b s2) (h3 : Got (gNum 1) s2 n s3) (h4 : Got (gMany gRing n) s3 l s4) : Got gFeat s (a, b, l) s4 := by
  intro p hp
  unfold gFeat at hp
  simp only [Option.bind_eq_some_iff, Option.map_eq_some_iff] at hp
  obtain ⟨⟨a, t⟩, e1, ⟨b, t2⟩, e2, ⟨c, t3⟩, e3, ⟨d, t4⟩, e4, rfl⟩ := hp
  obtain ⟨rfl, rfl⟩ := h1.val e1
  obtain ⟨rfl, rfl⟩ := h2.val e2
  obtain ⟨rfl, rfl⟩ := h3.val e3
  obtain ⟨rfl, rfl⟩ := h4.val e4
  rfl
theorem got_map {s s1 s2 s3 s4 : Byts} {a : Int} {n : Nat} {l m : List Int} (h1 : Got (gNum 2) s a s1) (h2 : Got (gNum 1) s1 n s2) (h3 : Got (gMany (gNum 4) n) s2 l s3) (h4 : Got (gMany (gNum 1) n) s3 m s4) : Got gMap s (a, l, m) s4 := by
  intro p hp
  unfold gMap at hp
  simp only [Option.bind_eq_some_iff, Option.map_eq_some_iff] at hp
  obtain ⟨⟨a, t⟩, e1, ⟨b, t2⟩, e2, ⟨c, t3⟩, e3, ⟨d, t4⟩, e4, rfl⟩ := hp
  obtain ⟨rfl, rfl⟩ := h1.val e1
  obtain ⟨rfl, rfl⟩ := h2.val e2
  obtain ⟨rfl, rfl⟩ := h3.val e3
  obtain ⟨rfl, rfl⟩ := h4.val e4
  rfl
theorem got_op {s s1 s2 : Byts} {a : Int} {o : OpV} (h1 : Got (gNum 1) s a s1) (h0 : a = 0 → ∃ f sh rs, Got gFeat s1 (f, sh, rs) s2 ∧ o = ⟨0, f, sh, rs, 0, 0, [], []⟩) (h2 : a = 1 → ∃ i, Got (gNum 2) s1 i s2 ∧ o = ⟨1, 0, 0, [], i, 0, [], []⟩) (h3 : a = 2 → ∃ e ss os, Got gMap s1 (e, ss, os) s2 ∧ o = ⟨2, 0, 0, [], 0, e, ss, os⟩) : Got gOp s o s2 := by
  intro p hp
  unfold gOp at hp
  simp only [Option.bind_eq_some_iff] at hp
  obtain ⟨⟨a, t⟩, e1, e2⟩ := hp
  obtain ⟨rfl, rfl⟩ := h1.val e1
  dsimp only at e2
  split at e2
  · rename_i c
    obtain ⟨f, sh, rs, h, rfl⟩ := h0 c
    simp only [Option.map_eq_some_iff] at e2
    obtain ⟨⟨b, t2⟩, e2, rfl⟩ := e2
    obtain ⟨rfl, rfl⟩ := h.val e2
    rfl
  split at e2
  · rename_i c
    obtain ⟨i, h, rfl⟩ := h2 c
    simp only [Option.map_eq_some_iff] at e2
    obtain ⟨⟨b, t2⟩, e2, rfl⟩ := e2
    obtain ⟨rfl, rfl⟩ := h.val e2
    rfl
  split at e2
  · rename_i c
    obtain ⟨e, ss, os, h, rfl⟩ := h3 c
    simp only [Option.map_eq_some_iff] at e2
    obtain ⟨⟨b, t2⟩, e2, rfl⟩ := e2
    obtain ⟨rfl, rfl⟩ := h.val e2
    rfl
  · simp at e2
theorem got_rec {s s1 s2 : Byts} {a : Int} {r : RecV} (h1 : Got (gNum 1) s a s1) (h0 : a = 0 → ∃ e ss os, Got gMap s1 (e, ss, os) s2 ∧ r = ⟨0, 0, 0, 0, false, e, ss, os, []⟩)
    (h2 : a = 1 ∨ a = 2 → ∃ n q b l t1 t2, Got gName s1 (n, q) t1 ∧ Got (gNum 4) t1 b t2 ∧ Got gOps t2 l s2 ∧ r = ⟨a, n, q, b - 1, false, 0, [], [], l⟩)
    (h3 : a = 3 → ∃ n q c t1, Got gName s1 (n, q) t1 ∧ Got gBool t1 c s2 ∧ r = ⟨3, n, q, 0, c, 0, [], [], []⟩)
    (h4 : a = 4 → ∃ n q, Got gName s1 (n, q) s2 ∧ r = ⟨4, n, q, 0, false, 0, [], [], []⟩) : Got gRec s r s2 := by
  intro p hp
  unfold gRec at hp
  simp only [Option.bind_eq_some_iff] at hp
  obtain ⟨⟨a, t⟩, e1, e2⟩ := hp
  obtain ⟨rfl, rfl⟩ := h1.val e1
  dsimp only at e2
  split at e2
  · rename_i c
    obtain ⟨e, ss, os, h, rfl⟩ := h0 c
    simp only [Option.map_eq_some_iff] at e2
    obtain ⟨⟨b, t2⟩, e2, rfl⟩ := e2
    obtain ⟨rfl, rfl⟩ := h.val e2
    rfl
  split at e2
  · rename_i c
    obtain ⟨n, q, b, l, t1, t2, k1, k2, k3, rfl⟩ := h2 c
    simp only [Option.bind_eq_some_iff, Option.map_eq_some_iff] at e2
    obtain ⟨⟨b, t2⟩, e2, ⟨b3, t3⟩, e3, ⟨b4, t4⟩, e4, rfl⟩ := e2
    obtain ⟨rfl, rfl⟩ := k1.val e2
    obtain ⟨rfl, rfl⟩ := k2.val e3
    obtain ⟨rfl, rfl⟩ := k3.val e4
    rfl
  split at e2
  · rename_i c
    obtain ⟨n, q, c, t1, k1, k2, rfl⟩ := h3 c
    simp only [Option.bind_eq_some_iff, Option.map_eq_some_iff] at e2
    obtain ⟨⟨b, t2⟩, e2, ⟨b3, t3⟩, e3, rfl⟩ := e2
    obtain ⟨rfl, rfl⟩ := k1.val e2
    obtain ⟨rfl, rfl⟩ := k2.val e3
    rfl
  split at e2
  · rename_i c
    obtain ⟨n, q, k1, rfl⟩ := h4 c
    simp only [Option.map_eq_some_iff] at e2
    obtain ⟨⟨b, t2⟩, e2, rfl⟩ := e2
    obtain ⟨rfl, rfl⟩ := k1.val e2
    rfl
  · simp at e2
theorem got_num {K : Nat} {s : Byts} {x : Int} {s' : Byts} (h : (K ≤ s.length ∧ x = num (s.take K) ∧ s' = s.drop K) ∨ s.length < K) : Got (gNum K) s x s' := by
  intro p hp
  unfold gNum at hp
  rcases h with ⟨h1, rfl, rfl⟩ | h
  · rw [if_pos h1] at hp; simpa using hp
  · rw [if_neg (by omega)] at hp; simp at hp
theorem num_snoc (l : Byts) (b : UInt8) : num (l ++ [b]) = num l * 256 + (b.toNat : Int) := by
  unfold num
  rw [List.foldl_append]
  simp
theorem num_nat (l : Byts) : ∃ n : Nat, num l = n ∧ n < 256 ^ l.length := by
  have key : ∀ (l : Byts) (a : Nat) (k : Nat), a < 256 ^ k → l.foldl (fun (a : Nat) (b : UInt8) => a * 256 + b.toNat) a < 256 ^ (k + l.length) := by
    intro l
    induction l with
    | nil => intro a k h; simpa using h
    | cons b l ih =>
      intro a k h
      have hb : b.toNat < 256 := b.toNat_lt
      have := ih (a * 256 + b.toNat) (k + 1) (by rw [Nat.pow_succ]; omega)
      rw [List.foldl_cons, List.length_cons]
      rwa [show k + (l.length + 1) = k + 1 + l.length by omega]
  exact ⟨_, rfl, by simpa using key l 0 0 (by simp)⟩
end Go.Proofs.Ytmjliomgkcmjaaa.RecW
