/-
  Records as bytes: what they are, how they are written and read. Plain facts; no function of the program is named here.
-/
import Derived.Test.YtmjliomgkcmjaaaShapeMath
import Derived.Test.YtmjliomgkcmjaaaMapOk
namespace Go.Proofs.Ytmjliomgkcmjaaa.RecW
open Go.RowKit Shp Geom IntW WideW
set_option linter.all false

abbrev Byts := List UInt8
structure OpV where
  kind : Int
  fid : Int
  sh : Int
  rs : List (List P2)
  id : Int
  ep : Int
  ss : List Int
  os : List Int
structure RecV where
  kind : Int
  node : Int
  sq : Int
  base : Int
  commit : Bool
  ep : Int
  ss : List Int
  os : List Int
  ops : List OpV
def op0 : OpV := ⟨0, 0, 0, [], 0, 0, [], []⟩
def rec0 : RecV := ⟨0, 0, 0, 0, false, 0, [], [], []⟩
instance : Inhabited OpV := ⟨op0⟩
def opAt (l : List OpV) (i : Nat) : OpV := l[i]?.getD op0
theorem opAt_eq {l : List OpV} {i : Nat} (h : i < l.length) : opAt l i = l[i] := by simp [opAt, h]
theorem opAt_mem {l : List OpV} {i : Nat} (h : i < l.length) : opAt l i ∈ l := by rw [opAt_eq h]; exact List.getElem_mem h
theorem ops_eq {l m : List OpV} : l = m ↔ l.length = m.length ∧ ∀ j, j < l.length → opAt l j = opAt m j := by
  constructor
  · rintro rfl; exact ⟨rfl, fun _ _ => rfl⟩
  · rintro ⟨h, k⟩
    apply List.ext_getElem h
    intro j h1 h2
    have := k j h1
    rwa [opAt_eq h1, opAt_eq h2] at this

/-! What may be. -/
def NoM (ep : Int) (ss os : List Int) : Prop := ep = 0 ∧ ss = [] ∧ os = []
def NoF (fid sh : Int) (rs : List (List P2)) : Prop := fid = 0 ∧ sh = 0 ∧ rs = []
def OpMay (o : OpV) : Prop :=
  (o.kind = 0 ∧ Shp.May o.fid o.sh o.rs ∧ o.id = 0 ∧ NoM o.ep o.ss o.os) ∨
  (o.kind = 1 ∧ (1 ≤ o.id ∧ o.id ≤ 65535) ∧ NoF o.fid o.sh o.rs ∧ NoM o.ep o.ss o.os) ∨
  (o.kind = 2 ∧ MapOk o.ep o.ss o.os 8 ∧ o.id = 0 ∧ NoF o.fid o.sh o.rs)
/-- The Ids that a row of operations puts or deletes, in its order. -/
def idsOf : List OpV → List Int
  | [] => []
  | o :: l => (if o.kind = 0 then [o.fid] else if o.kind = 1 then [o.id] else []) ++ idsOf l
def EachMay (l : List OpV) : Prop := ∀ o ∈ l, OpMay o
def MapsFirst (l : List OpV) : Prop := ∀ o ∈ l.drop 1, o.kind ≠ 2
def OpsMay (l : List OpV) : Prop := (1 ≤ l.length ∧ l.length ≤ 32) ∧ EachMay l ∧ MapsFirst l ∧ (idsOf l).Nodup
def NameMay (n s : Int) : Prop := (0 ≤ n ∧ n < 8) ∧ 1 ≤ s ∧ s ≤ 65535
def BaseMay (b : Int) : Prop := -1 ≤ b ∧ b ≤ 65535
def NoWork (b : Int) (l : List OpV) : Prop := b = 0 ∧ l = []
def RMay (r : RecV) : Prop :=
  (r.kind = 0 ∧ MapOk r.ep r.ss r.os 8 ∧ (r.node = 0 ∧ r.sq = 0) ∧ r.commit = false ∧ NoWork r.base r.ops) ∨
  ((r.kind = 1 ∨ r.kind = 2) ∧ NameMay r.node r.sq ∧ BaseMay r.base ∧ OpsMay r.ops ∧ r.commit = false ∧ NoM r.ep r.ss r.os) ∨
  (r.kind = 3 ∧ NameMay r.node r.sq ∧ NoM r.ep r.ss r.os ∧ NoWork r.base r.ops) ∨
  (r.kind = 4 ∧ NameMay r.node r.sq ∧ r.commit = false ∧ NoM r.ep r.ss r.os ∧ NoWork r.base r.ops)

/-! How it is written. -/
def be (k : Nat) (x : Int) : Byts := (List.range k).map (fun i => UInt8.ofNat (x.toNat / 256 ^ (k - 1 - i) % 256))
theorem be_len (k : Nat) (x : Int) : (be k x).length = k := by simp [be]
def putPt (p : P2) : Byts := be 4 p.1 ++ be 4 p.2
def putRing (r : List P2) : Byts := be 1 r.length ++ r.flatMap putPt
def putFeat (fid sh : Int) (rs : List (List P2)) : Byts := be 2 fid ++ be 1 sh ++ be 1 rs.length ++ rs.flatMap putRing
def putMap (ep : Int) (ss os : List Int) : Byts := be 2 ep ++ be 1 ss.length ++ ss.flatMap (be 4) ++ os.flatMap (be 1)
def putOp (o : OpV) : Byts := be 1 o.kind ++ (if o.kind = 0 then putFeat o.fid o.sh o.rs else if o.kind = 1 then be 2 o.id else if o.kind = 2 then putMap o.ep o.ss o.os else [])
def putOps (l : List OpV) : Byts := be 1 l.length ++ l.flatMap putOp
def putName (n s : Int) : Byts := be 1 n ++ be 2 s
def flagOf (b : Bool) : Int := if b then 1 else 0
def putRec (r : RecV) : Byts := be 1 r.kind ++ (if r.kind = 0 then putMap r.ep r.ss r.os else if r.kind = 1 ∨ r.kind = 2 then putName r.node r.sq ++ be 4 (r.base + 1) ++ putOps r.ops else if r.kind = 3 then putName r.node r.sq ++ be 1 (flagOf r.commit) else if r.kind = 4 then putName r.node r.sq else [])

/-! How it is read; none: it was short, or nothing that there is. -/
def num (l : Byts) : Int := (l.foldl (fun (a : Nat) (b : UInt8) => a * 256 + b.toNat) 0 : Nat)
def gNum (k : Nat) (s : Byts) : Option (Int × Byts) := if k ≤ s.length then some (num (s.take k), s.drop k) else none
def gMany {α : Type} (g : Byts → Option (α × Byts)) : Nat → Byts → Option (List α × Byts)
  | 0, s => some ([], s)
  | k + 1, s => (gMany g k s).bind fun x => (g x.2).map fun y => (x.1 ++ [y.1], y.2)
def gPt (s : Byts) : Option (P2 × Byts) := (gNum 4 s).bind fun x => (gNum 4 x.2).map fun y => ((x.1, y.1), y.2)
def gRing (s : Byts) : Option (List P2 × Byts) := (gNum 1 s).bind fun x => gMany gPt x.1.toNat x.2
def gFeat (s : Byts) : Option ((Int × Int × List (List P2)) × Byts) := (gNum 2 s).bind fun a => (gNum 1 a.2).bind fun b => (gNum 1 b.2).bind fun c => (gMany gRing c.1.toNat c.2).map fun d => ((a.1, b.1, d.1), d.2)
def gMap (s : Byts) : Option ((Int × List Int × List Int) × Byts) := (gNum 2 s).bind fun a => (gNum 1 a.2).bind fun b => (gMany (gNum 4) b.1.toNat b.2).bind fun c => (gMany (gNum 1) b.1.toNat c.2).map fun d => ((a.1, c.1, d.1), d.2)
def gOp (s : Byts) : Option (OpV × Byts) := (gNum 1 s).bind fun a =>
  if a.1 = 0 then (gFeat a.2).map fun b => (⟨0, b.1.1, b.1.2.1, b.1.2.2, 0, 0, [], []⟩, b.2)
  else if a.1 = 1 then (gNum 2 a.2).map fun b => (⟨1, 0, 0, [], b.1, 0, [], []⟩, b.2)
  else if a.1 = 2 then (gMap a.2).map fun b => (⟨2, 0, 0, [], 0, b.1.1, b.1.2.1, b.1.2.2⟩, b.2)
  else none
def gOps (s : Byts) : Option (List OpV × Byts) := (gNum 1 s).bind fun a => gMany gOp a.1.toNat a.2
def gName (s : Byts) : Option ((Int × Int) × Byts) := (gNum 1 s).bind fun a => (gNum 2 a.2).map fun b => ((a.1, b.1), b.2)
def gBool (s : Byts) : Option (Bool × Byts) := (gNum 1 s).bind fun a => if a.1 ≤ 1 then some (decide (a.1 = 1), a.2) else none
def gRec (s : Byts) : Option (RecV × Byts) := (gNum 1 s).bind fun a =>
  if a.1 = 0 then (gMap a.2).map fun b => (⟨0, 0, 0, 0, false, b.1.1, b.1.2.1, b.1.2.2, []⟩, b.2)
  else if a.1 = 1 ∨ a.1 = 2 then (gName a.2).bind fun b => (gNum 4 b.2).bind fun c => (gOps c.2).map fun d => (⟨a.1, b.1.1, b.1.2, c.1 - 1, false, 0, [], [], d.1⟩, d.2)
  else if a.1 = 3 then (gName a.2).bind fun b => (gBool b.2).map fun c => (⟨3, b.1.1, b.1.2, 0, c.1, 0, [], [], []⟩, c.2)
  else if a.1 = 4 then (gName a.2).map fun b => (⟨4, b.1.1, b.1.2, 0, false, 0, [], [], []⟩, b.2)
  else none

/-! There and back. -/
theorem ofNat_toNat (n : Nat) (h : n < 256) : (UInt8.ofNat n).toNat = n := by simp; omega
theorem be1 (x : Int) : be 1 x = [UInt8.ofNat (x.toNat % 256)] := by simp [be]
theorem be2 (x : Int) : be 2 x = [UInt8.ofNat (x.toNat / 256 % 256), UInt8.ofNat (x.toNat % 256)] := by simp [be, List.range_succ]
theorem be4 (x : Int) : be 4 x = [UInt8.ofNat (x.toNat / 16777216 % 256), UInt8.ofNat (x.toNat / 65536 % 256), UInt8.ofNat (x.toNat / 256 % 256), UInt8.ofNat (x.toNat % 256)] := by simp [be, List.range_succ]
theorem num1 (a : UInt8) : num [a] = a.toNat := by simp [num]
theorem num2 (a b : UInt8) : num [a, b] = (a.toNat * 256 + b.toNat : Nat) := by simp [num]
theorem num4 (a b c d : UInt8) : num [a, b, c, d] = (((a.toNat * 256 + b.toNat) * 256 + c.toNat) * 256 + d.toNat : Nat) := by simp [num]
theorem num_be1 (x : Int) (h : 0 ≤ x ∧ x ≤ 255) : num (be 1 x) = x := by
  rw [be1, num1, ofNat_toNat _ (by omega)]; omega
theorem num_be2 (x : Int) (h : 0 ≤ x ∧ x ≤ 65535) : num (be 2 x) = x := by
  rw [be2, num2, ofNat_toNat _ (by omega), ofNat_toNat _ (by omega)]; omega
theorem num_be4 (x : Int) (h : 0 ≤ x ∧ x ≤ 4294967295) : num (be 4 x) = x := by
  rw [be4, num4, ofNat_toNat _ (by omega), ofNat_toNat _ (by omega), ofNat_toNat _ (by omega), ofNat_toNat _ (by omega)]; omega
theorem gNum_be (k : Nat) (x : Int) (t : Byts) (h : num (be k x) = x) : gNum k (be k x ++ t) = some (x, t) := by
  unfold gNum
  rw [if_pos (by simp [be_len])]
  have h1 : (be k x ++ t).take k = be k x := by rw [List.take_append_of_le_length (by rw [be_len]; exact Nat.le_refl _), List.take_of_length_le (by rw [be_len]; exact Nat.le_refl _)]
  have h2 : (be k x ++ t).drop k = t := by
    have := List.drop_left (l₁ := be k x) (l₂ := t)
    rwa [be_len] at this
  rw [h1, h2, h]
theorem gMany_snoc {α : Type} (g : Byts → Option (α × Byts)) (p : α → Byts) : ∀ (k : Nat) (l : List α), l.length = k → (∀ x ∈ l, ∀ t, g (p x ++ t) = some (x, t)) → ∀ t, gMany g k (l.flatMap p ++ t) = some (l, t)
  | 0, l, hk, h, t => by
    obtain rfl := List.eq_nil_of_length_eq_zero hk
    rfl
  | k + 1, l, hk, h, t => by
    obtain ⟨m, x, rfl⟩ : ∃ m x, l = m ++ [x] := ⟨l.dropLast, l.getLast (by intro e; simp [e] at hk), (List.dropLast_concat_getLast _).symm⟩
    have ih := gMany_snoc g p k m (by simpa using hk) (fun y hy => h y (List.mem_append.2 (.inl hy))) (p x ++ t)
    rw [gMany, List.flatMap_append, List.append_assoc]
    simp only [List.flatMap_cons, List.flatMap_nil, List.append_nil]
    rw [ih]
    simp [h x (by simp) t]
theorem gMany_put {α : Type} {g : Byts → Option (α × Byts)} {p : α → Byts} (l : List α) (h : ∀ x ∈ l, ∀ t, g (p x ++ t) = some (x, t)) (t : Byts) : gMany g l.length (l.flatMap p ++ t) = some (l, t) :=
  gMany_snoc g p l.length l rfl h t
theorem gPt_put (p : P2) (h : Pt p.1 p.2) (t : Byts) : gPt (putPt p ++ t) = some (p, t) := by
  obtain ⟨h1, h2, h3, h4⟩ := h
  unfold gPt putPt
  rw [List.append_assoc, gNum_be _ _ _ (num_be4 _ ⟨h1, h2⟩)]
  simp [gNum_be _ _ _ (num_be4 _ ⟨h3, h4⟩)]
theorem gRing_put (r : List P2) (hl : r.length ≤ 255) (h : ∀ p ∈ r, Pt p.1 p.2) (t : Byts) : gRing (putRing r ++ t) = some (r, t) := by
  unfold gRing putRing
  rw [List.append_assoc, gNum_be _ _ _ (num_be1 _ (by omega))]
  simp [gMany_put r (fun p hp => gPt_put p (h p hp))]
theorem gFeat_put (fid sh : Int) (rs : List (List P2)) (h0 : 0 ≤ fid ∧ fid ≤ 65535) (h1 : 0 ≤ sh ∧ sh ≤ 255) (hl : rs.length ≤ 255) (hr : ∀ r ∈ rs, r.length ≤ 255 ∧ ∀ p ∈ r, Pt p.1 p.2) (t : Byts) : gFeat (putFeat fid sh rs ++ t) = some ((fid, sh, rs), t) := by
  unfold gFeat putFeat
  rw [List.append_assoc, List.append_assoc, List.append_assoc, gNum_be _ _ _ (num_be2 _ h0)]
  simp [gNum_be _ _ _ (num_be1 _ h1), gNum_be _ _ _ (num_be1 (rs.length : Int) (by omega)), gMany_put rs (fun r hr' => gRing_put r (hr r hr').1 (hr r hr').2)]
theorem gMap_put (ep : Int) (ss os : List Int) (h0 : 0 ≤ ep ∧ ep ≤ 65535) (hl : ss.length ≤ 255) (he : os.length = ss.length) (hs : ∀ x ∈ ss, 0 ≤ x ∧ x ≤ 4294967295) (ho : ∀ x ∈ os, 0 ≤ x ∧ x ≤ 255) (t : Byts) : gMap (putMap ep ss os ++ t) = some ((ep, ss, os), t) := by
  unfold gMap putMap
  have h1 := gMany_put (g := gNum 4) ss (fun x hx => fun t => gNum_be 4 x t (num_be4 x (hs x hx)))
  have h2 := gMany_put (g := gNum 1) os (fun x hx => fun t => gNum_be 1 x t (num_be1 x (ho x hx)))
  rw [he] at h2
  rw [List.append_assoc, List.append_assoc, List.append_assoc, gNum_be _ _ _ (num_be2 _ h0)]
  simp [gNum_be _ _ _ (num_be1 (ss.length : Int) (by omega)), h1, h2]

theorem bds_le (sh : Int) : (bds sh).1 ≤ 4 ∧ (bds sh).2.2 ≤ 16 := by
  unfold bds; split
  · simp
  · split
    · simp
    · split <;> simp
theorem bds_sh {sh : Int} (h : 1 ≤ (bds sh).1) : 0 ≤ sh ∧ sh ≤ 2 := by
  unfold bds at h
  split at h
  · omega
  · split at h
    · omega
    · split at h
      · omega
      · simp at h
theorem may_feat {fid sh : Int} {rs : List (List P2)} (h : Shp.May fid sh rs) : (1 ≤ fid ∧ fid ≤ 65535) ∧ (0 ≤ sh ∧ sh ≤ 2) ∧ rs.length ≤ 4 ∧ ∀ r ∈ rs, r.length ≤ 16 ∧ ∀ p ∈ r, Pt p.1 p.2 := by
  obtain ⟨a, b, ⟨c1, c2, c3⟩, d, -⟩ := h
  have hb := bds_le sh
  refine ⟨⟨a, b⟩, bds_sh (by omega), by omega, fun r hr => ⟨by have := (c3 r hr).2; omega, fun p hp => d p (List.mem_flatten.2 ⟨r, hr, hp⟩)⟩⟩
theorem may_map {ep : Int} {ss os : List Int} (h : MapOk ep ss os 8) : (1 ≤ ep ∧ ep ≤ 65535) ∧ (1 ≤ ss.length ∧ ss.length ≤ 32) ∧ os.length = ss.length ∧ (∀ x ∈ ss, 0 ≤ x ∧ x ≤ 4294967295) ∧ (∀ x ∈ os, 0 ≤ x ∧ x ≤ 7) := by
  obtain ⟨⟨-, -, a, b, c, d, e, f⟩, h⟩ := h
  have pos : ∀ i, i < ss.length → 0 ≤ it ss i := by
    intro i
    induction i with
    | zero => intro _; omega
    | succ i ih =>
      intro hi
      have h1 := ih (by omega)
      have h2 := (h (i + 1) hi).2.2.2 (by omega)
      simp at h2
      omega
  refine ⟨⟨a, b⟩, ⟨c, d⟩, e, fun x hx => ?_, fun x hx => ?_⟩
  · obtain ⟨i, hi, rfl⟩ := List.mem_iff_getElem.1 hx
    have h1 := pos i hi
    have h2 := (h i hi).1
    rw [it_eq hi] at h1 h2
    omega
  · obtain ⟨i, hi, rfl⟩ := List.mem_iff_getElem.1 hx
    have h2 := (h i (by omega)).2
    rw [it_eq hi] at h2
    omega
theorem gOp_put (o : OpV) (h : OpMay o) (t : Byts) : gOp (putOp o ++ t) = some (o, t) := by
  obtain ⟨kind, fid, sh, rs, id, ep, ss, os⟩ := o
  rcases h with ⟨h1, h2, h3, h4, h5, h6⟩ | ⟨h1, h2, ⟨h3, h4, h5⟩, h6, h7, h8⟩ | ⟨h1, h2, h3, h4, h5, h6⟩
  all_goals dsimp only at *
  · subst h1 h3 h4 h5 h6
    have m := may_feat h2
    unfold gOp putOp
    rw [List.append_assoc, gNum_be _ _ _ (num_be1 _ (by dsimp only; omega))]
    simp [gFeat_put fid sh rs (by omega) (by omega) (by omega) (fun r hr => ⟨by have := (m.2.2.2 r hr).1; omega, (m.2.2.2 r hr).2⟩)]
  · subst h1 h3 h4 h5 h6 h7 h8
    unfold gOp putOp
    rw [List.append_assoc, gNum_be _ _ _ (num_be1 _ (by dsimp only; omega))]
    simp [gNum_be _ _ _ (num_be2 id (by omega))]
  · subst h1 h3 h4 h5 h6
    have m := may_map h2
    unfold gOp putOp
    rw [List.append_assoc, gNum_be _ _ _ (num_be1 _ (by dsimp only; omega))]
    simp [gMap_put ep ss os (by omega) (by omega) m.2.2.1 m.2.2.2.1 (fun x hx => by have := m.2.2.2.2 x hx; omega)]
theorem gOps_put (l : List OpV) (h : OpsMay l) (t : Byts) : gOps (putOps l ++ t) = some (l, t) := by
  unfold gOps putOps
  obtain ⟨⟨h1, h2⟩, h3, -⟩ := h
  rw [List.append_assoc, gNum_be _ _ _ (num_be1 _ (by omega))]
  simp [gMany_put l (fun o ho => gOp_put o (h3 o ho))]
theorem gName_put (n s : Int) (h : NameMay n s) (t : Byts) : gName (putName n s ++ t) = some ((n, s), t) := by
  unfold gName putName
  obtain ⟨⟨h1, h2⟩, h3, h4⟩ := h
  rw [List.append_assoc, gNum_be _ _ _ (num_be1 _ (by omega))]
  simp [gNum_be _ _ _ (num_be2 s (by omega))]
/-- A record that may be is read back whole. -/
theorem gRec_put (r : RecV) (h : RMay r) : gRec (putRec r) = some (r, []) := by
  have key : ∀ t, gRec (putRec r ++ t) = some (r, t) := by
    intro t
    obtain ⟨kind, node, sq, base, commit, ep, ss, os, ops⟩ := r
    rcases h with ⟨h1, h2, ⟨h3, h4⟩, h5, h6, h7⟩ | ⟨h1, h2, h3, h4, h5, h6, h7, h8⟩ | ⟨h1, h2, ⟨h3, h4, h5⟩, h6, h7⟩ | ⟨h1, h2, h3, ⟨h4, h5, h6⟩, h7, h8⟩
    all_goals dsimp only at *
    · subst h1 h3 h4 h5 h6 h7
      have m := may_map h2
      unfold gRec putRec
      rw [List.append_assoc, gNum_be _ _ _ (num_be1 _ (by dsimp only; omega))]
      simp [gMap_put ep ss os (by omega) (by omega) m.2.2.1 m.2.2.2.1 (fun x hx => by have := m.2.2.2.2 x hx; omega)]
    · subst h5 h6 h7 h8
      unfold BaseMay at h3
      unfold gRec putRec
      rw [List.append_assoc, gNum_be _ _ _ (num_be1 _ (by dsimp only; omega))]
      have k0 : ¬ kind = 0 := by omega
      simp [k0, h1, gName_put _ _ h2, gNum_be _ _ _ (num_be4 (base + 1) (by omega)), gOps_put _ h4]
    · subst h1 h3 h4 h5 h6 h7
      unfold gRec putRec
      rw [List.append_assoc, gNum_be _ _ _ (num_be1 _ (by dsimp only; omega))]
      have hf : ∀ t, gBool (be 1 (flagOf commit) ++ t) = some (commit, t) := fun t => by
        unfold gBool
        rw [gNum_be _ _ _ (num_be1 _ (by unfold flagOf; split <;> omega))]
        cases commit <;> simp [flagOf]
      simp [gName_put _ _ h2, hf]
    · subst h1 h3 h4 h5 h6 h7 h8
      unfold gRec putRec
      rw [List.append_assoc, gNum_be _ _ _ (num_be1 _ (by dsimp only; omega))]
      simp [gName_put _ _ h2]
  simpa using key []
end Go.Proofs.Ytmjliomgkcmjaaa.RecW
