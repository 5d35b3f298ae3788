import Derived.Test.YtmjliomgkcmjaaaGreatMapOk
import Derived.Deep.RegionHeld
import Derived.StillTail
import Derived.Lib.ConvBytes
import Derived.Laws.IdiomStrings
import Derived.Laws.OwnMore
import Derived.Test.YtmjliomgkcmjaaaGreatGeomCross
/-
  Records as bytes: what they are, how they are written and read. Plain facts; no function of the program is named here.
-/
namespace Go.Proofs.YtmjliomgkcmjaaaGreat.RecW
open Go.RowKit Shp Geom IntW WideW
set_option linter.all false

abbrev Byts := List UInt8
structure OpV where
  kind : Int
  fid : Int
  sh : Int
  rs : List (List P2)
  id : Int
  ep : Int
  ss : List Int
  os : List Int
structure RecV where
  kind : Int
  node : Int
  sq : Int
  base : Int
  commit : Bool
  ep : Int
  ss : List Int
  os : List Int
  ops : List OpV
def op0 : OpV := ⟨0, 0, 0, [], 0, 0, [], []⟩
def rec0 : RecV := ⟨0, 0, 0, 0, false, 0, [], [], []⟩
instance : Inhabited OpV := ⟨op0⟩
def opAt (l : List OpV) (i : Nat) : OpV := l[i]?.getD op0
theorem opAt_eq {l : List OpV} {i : Nat} (h : i < l.length) : opAt l i = l[i] := by simp [opAt, h]
theorem opAt_mem {l : List OpV} {i : Nat} (h : i < l.length) : opAt l i ∈ l := by rw [opAt_eq h]; exact List.getElem_mem h
theorem ops_eq {l m : List OpV} : l = m ↔ l.length = m.length ∧ ∀ j, j < l.length → opAt l j = opAt m j := by
  constructor
  · rintro rfl; exact ⟨rfl, fun _ _ => rfl⟩
  · rintro ⟨h, k⟩
    apply List.ext_getElem h
    intro j h1 h2
    have := k j h1
    rwa [opAt_eq h1, opAt_eq h2] at this

/-! What may be. -/
def NoM (ep : Int) (ss os : List Int) : Prop := ep = 0 ∧ ss = [] ∧ os = []
def NoF (fid sh : Int) (rs : List (List P2)) : Prop := fid = 0 ∧ sh = 0 ∧ rs = []
def OpMay (o : OpV) : Prop :=
  (o.kind = 0 ∧ Shp.May o.fid o.sh o.rs ∧ o.id = 0 ∧ NoM o.ep o.ss o.os) ∨
  (o.kind = 1 ∧ (1 ≤ o.id ∧ o.id ≤ 65535) ∧ NoF o.fid o.sh o.rs ∧ NoM o.ep o.ss o.os) ∨
  (o.kind = 2 ∧ MapOk o.ep o.ss o.os 8 ∧ o.id = 0 ∧ NoF o.fid o.sh o.rs)
/-- The Ids that a row of operations puts or deletes, in its order. -/
def idsOf : List OpV → List Int
  | [] => []
  | o :: l => (if o.kind = 0 then [o.fid] else if o.kind = 1 then [o.id] else []) ++ idsOf l
def EachMay (l : List OpV) : Prop := ∀ o ∈ l, OpMay o
def MapsFirst (l : List OpV) : Prop := ∀ o ∈ l.drop 1, o.kind ≠ 2
def OpsMay (l : List OpV) : Prop := (1 ≤ l.length ∧ l.length ≤ 32) ∧ EachMay l ∧ MapsFirst l ∧ (idsOf l).Nodup
def NameMay (n s : Int) : Prop := (0 ≤ n ∧ n < 8) ∧ 1 ≤ s ∧ s ≤ 65535
def BaseMay (b : Int) : Prop := -1 ≤ b ∧ b ≤ 65535
def NoWork (b : Int) (l : List OpV) : Prop := b = 0 ∧ l = []
def RMay (r : RecV) : Prop :=
  (r.kind = 0 ∧ MapOk r.ep r.ss r.os 8 ∧ (r.node = 0 ∧ r.sq = 0) ∧ r.commit = false ∧ NoWork r.base r.ops) ∨
  ((r.kind = 1 ∨ r.kind = 2) ∧ NameMay r.node r.sq ∧ BaseMay r.base ∧ OpsMay r.ops ∧ r.commit = false ∧ NoM r.ep r.ss r.os) ∨
  (r.kind = 3 ∧ NameMay r.node r.sq ∧ NoM r.ep r.ss r.os ∧ NoWork r.base r.ops) ∨
  (r.kind = 4 ∧ NameMay r.node r.sq ∧ r.commit = false ∧ NoM r.ep r.ss r.os ∧ NoWork r.base r.ops)

/-! How it is written. -/
def be (k : Nat) (x : Int) : Byts := (List.range k).map (fun i => UInt8.ofNat (x.toNat / 256 ^ (k - 1 - i) % 256))
theorem be_len (k : Nat) (x : Int) : (be k x).length = k := by simp [be]
def putPt (p : P2) : Byts := be 4 p.1 ++ be 4 p.2
def putRing (r : List P2) : Byts := be 1 r.length ++ r.flatMap putPt
def putFeat (fid sh : Int) (rs : List (List P2)) : Byts := be 2 fid ++ be 1 sh ++ be 1 rs.length ++ rs.flatMap putRing
def putMap (ep : Int) (ss os : List Int) : Byts := be 2 ep ++ be 1 ss.length ++ ss.flatMap (be 4) ++ os.flatMap (be 1)
def putOp (o : OpV) : Byts := be 1 o.kind ++ (if o.kind = 0 then putFeat o.fid o.sh o.rs else if o.kind = 1 then be 2 o.id else if o.kind = 2 then putMap o.ep o.ss o.os else [])
def putOps (l : List OpV) : Byts := be 1 l.length ++ l.flatMap putOp
def putName (n s : Int) : Byts := be 1 n ++ be 2 s
def flagOf (b : Bool) : Int := if b then 1 else 0
def putRec (r : RecV) : Byts := be 1 r.kind ++ (if r.kind = 0 then putMap r.ep r.ss r.os else if r.kind = 1 ∨ r.kind = 2 then putName r.node r.sq ++ be 4 (r.base + 1) ++ putOps r.ops else if r.kind = 3 then putName r.node r.sq ++ be 1 (flagOf r.commit) else if r.kind = 4 then putName r.node r.sq else [])

/-! How it is read; none: it was short, or nothing that there is. -/
def num (l : Byts) : Int := (l.foldl (fun (a : Nat) (b : UInt8) => a * 256 + b.toNat) 0 : Nat)
def gNum (k : Nat) (s : Byts) : Option (Int × Byts) := if k ≤ s.length then some (num (s.take k), s.drop k) else none
def gMany {α : Type} (g : Byts → Option (α × Byts)) : Nat → Byts → Option (List α × Byts)
  | 0, s => some ([], s)
  | k + 1, s => (gMany g k s).bind fun x => (g x.2).map fun y => (x.1 ++ [y.1], y.2)
def gPt (s : Byts) : Option (P2 × Byts) := (gNum 4 s).bind fun x => (gNum 4 x.2).map fun y => ((x.1, y.1), y.2)
def gRing (s : Byts) : Option (List P2 × Byts) := (gNum 1 s).bind fun x => gMany gPt x.1.toNat x.2
def gFeat (s : Byts) : Option ((Int × Int × List (List P2)) × Byts) := (gNum 2 s).bind fun a => (gNum 1 a.2).bind fun b => (gNum 1 b.2).bind fun c => (gMany gRing c.1.toNat c.2).map fun d => ((a.1, b.1, d.1), d.2)
def gMap (s : Byts) : Option ((Int × List Int × List Int) × Byts) := (gNum 2 s).bind fun a => (gNum 1 a.2).bind fun b => (gMany (gNum 4) b.1.toNat b.2).bind fun c => (gMany (gNum 1) b.1.toNat c.2).map fun d => ((a.1, c.1, d.1), d.2)
def gOp (s : Byts) : Option (OpV × Byts) := (gNum 1 s).bind fun a =>
  if a.1 = 0 then (gFeat a.2).map fun b => (⟨0, b.1.1, b.1.2.1, b.1.2.2, 0, 0, [], []⟩, b.2)
  else if a.1 = 1 then (gNum 2 a.2).map fun b => (⟨1, 0, 0, [], b.1, 0, [], []⟩, b.2)
  else if a.1 = 2 then (gMap a.2).map fun b => (⟨2, 0, 0, [], 0, b.1.1, b.1.2.1, b.1.2.2⟩, b.2)
  else none
def gOps (s : Byts) : Option (List OpV × Byts) := (gNum 1 s).bind fun a => gMany gOp a.1.toNat a.2
def gName (s : Byts) : Option ((Int × Int) × Byts) := (gNum 1 s).bind fun a => (gNum 2 a.2).map fun b => ((a.1, b.1), b.2)
def gBool (s : Byts) : Option (Bool × Byts) := (gNum 1 s).bind fun a => if a.1 ≤ 1 then some (decide (a.1 = 1), a.2) else none
def gRec (s : Byts) : Option (RecV × Byts) := (gNum 1 s).bind fun a =>
  if a.1 = 0 then (gMap a.2).map fun b => (⟨0, 0, 0, 0, false, b.1.1, b.1.2.1, b.1.2.2, []⟩, b.2)
  else if a.1 = 1 ∨ a.1 = 2 then (gName a.2).bind fun b => (gNum 4 b.2).bind fun c => (gOps c.2).map fun d => (⟨a.1, b.1.1, b.1.2, c.1 - 1, false, 0, [], [], d.1⟩, d.2)
  else if a.1 = 3 then (gName a.2).bind fun b => (gBool b.2).map fun c => (⟨3, b.1.1, b.1.2, 0, c.1, 0, [], [], []⟩, c.2)
  else if a.1 = 4 then (gName a.2).map fun b => (⟨4, b.1.1, b.1.2, 0, false, 0, [], [], []⟩, b.2)
  else none

/-! There and back. -/
theorem ofNat_toNat (n : Nat) (h : n < 256) : (UInt8.ofNat n).toNat = n := by simp; omega
theorem be1 (x : Int) : be 1 x = [UInt8.ofNat (x.toNat % 256)] := by simp [be]
theorem be2 (x : Int) : be 2 x = [UInt8.ofNat (x.toNat / 256 % 256), UInt8.ofNat (x.toNat % 256)] := by simp [be, List.range_succ]
theorem be4 (x : Int) : be 4 x = [UInt8.ofNat (x.toNat / 16777216 % 256), UInt8.ofNat (x.toNat / 65536 % 256), UInt8.ofNat (x.toNat / 256 % 256), UInt8.ofNat (x.toNat % 256)] := by simp [be, List.range_succ]
theorem num1 (a : UInt8) : num [a] = a.toNat := by simp [num]
theorem num2 (a b : UInt8) : num [a, b] = (a.toNat * 256 + b.toNat : Nat) := by simp [num]
theorem num4 (a b c d : UInt8) : num [a, b, c, d] = (((a.toNat * 256 + b.toNat) * 256 + c.toNat) * 256 + d.toNat : Nat) := by simp [num]
theorem num_be1 (x : Int) (h : 0 ≤ x ∧ x ≤ 255) : num (be 1 x) = x := by
  rw [be1, num1, ofNat_toNat _ (by omega)]; omega
theorem num_be2 (x : Int) (h : 0 ≤ x ∧ x ≤ 65535) : num (be 2 x) = x := by
  rw [be2, num2, ofNat_toNat _ (by omega), ofNat_toNat _ (by omega)]; omega
theorem num_be4 (x : Int) (h : 0 ≤ x ∧ x ≤ 4294967295) : num (be 4 x) = x := by
  rw [be4, num4, ofNat_toNat _ (by omega), ofNat_toNat _ (by omega), ofNat_toNat _ (by omega), ofNat_toNat _ (by omega)]; omega
theorem gNum_be (k : Nat) (x : Int) (t : Byts) (h : num (be k x) = x) : gNum k (be k x ++ t) = some (x, t) := by
  unfold gNum
  rw [if_pos (by simp [be_len])]
  have h1 : (be k x ++ t).take k = be k x := by rw [List.take_append_of_le_length (by rw [be_len]; exact Nat.le_refl _), List.take_of_length_le (by rw [be_len]; exact Nat.le_refl _)]
  have h2 : (be k x ++ t).drop k = t := by
    have := List.drop_left (l₁ := be k x) (l₂ := t)
    rwa [be_len] at this
  rw [h1, h2, h]
theorem gMany_snoc {α : Type} (g : Byts → Option (α × Byts)) (p : α → Byts) : ∀ (k : Nat) (l : List α), l.length = k → (∀ x ∈ l, ∀ t, g (p x ++ t) = some (x, t)) → ∀ t, gMany g k (l.flatMap p ++ t) = some (l, t)
  | 0, l, hk, h, t => by
    obtain rfl := List.eq_nil_of_length_eq_zero hk
    rfl
  | k + 1, l, hk, h, t => by
    obtain ⟨m, x, rfl⟩ : ∃ m x, l = m ++ [x] := ⟨l.dropLast, l.getLast (by intro e; simp [e] at hk), (List.dropLast_concat_getLast _).symm⟩
    have ih := gMany_snoc g p k m (by simpa using hk) (fun y hy => h y (List.mem_append.2 (.inl hy))) (p x ++ t)
    rw [gMany, List.flatMap_append, List.append_assoc]
    simp only [List.flatMap_cons, List.flatMap_nil, List.append_nil]
    rw [ih]
    simp [h x (by simp) t]
theorem gMany_put {α : Type} {g : Byts → Option (α × Byts)} {p : α → Byts} (l : List α) (h : ∀ x ∈ l, ∀ t, g (p x ++ t) = some (x, t)) (t : Byts) : gMany g l.length (l.flatMap p ++ t) = some (l, t) :=
  gMany_snoc g p l.length l rfl h t
theorem gPt_put (p : P2) (h : Pt p.1 p.2) (t : Byts) : gPt (putPt p ++ t) = some (p, t) := by
  obtain ⟨h1, h2, h3, h4⟩ := h
  unfold gPt putPt
  rw [List.append_assoc, gNum_be _ _ _ (num_be4 _ ⟨h1, h2⟩)]
  simp [gNum_be _ _ _ (num_be4 _ ⟨h3, h4⟩)]
theorem gRing_put (r : List P2) (hl : r.length ≤ 255) (h : ∀ p ∈ r, Pt p.1 p.2) (t : Byts) : gRing (putRing r ++ t) = some (r, t) := by
  unfold gRing putRing
  rw [List.append_assoc, gNum_be _ _ _ (num_be1 _ (by omega))]
  simp [gMany_put r (fun p hp => gPt_put p (h p hp))]
theorem gFeat_put (fid sh : Int) (rs : List (List P2)) (h0 : 0 ≤ fid ∧ fid ≤ 65535) (h1 : 0 ≤ sh ∧ sh ≤ 255) (hl : rs.length ≤ 255) (hr : ∀ r ∈ rs, r.length ≤ 255 ∧ ∀ p ∈ r, Pt p.1 p.2) (t : Byts) : gFeat (putFeat fid sh rs ++ t) = some ((fid, sh, rs), t) := by
  unfold gFeat putFeat
  rw [List.append_assoc, List.append_assoc, List.append_assoc, gNum_be _ _ _ (num_be2 _ h0)]
  simp [gNum_be _ _ _ (num_be1 _ h1), gNum_be _ _ _ (num_be1 (rs.length : Int) (by omega)), gMany_put rs (fun r hr' => gRing_put r (hr r hr').1 (hr r hr').2)]
theorem gMap_put (ep : Int) (ss os : List Int) (h0 : 0 ≤ ep ∧ ep ≤ 65535) (hl : ss.length ≤ 255) (he : os.length = ss.length) (hs : ∀ x ∈ ss, 0 ≤ x ∧ x ≤ 4294967295) (ho : ∀ x ∈ os, 0 ≤ x ∧ x ≤ 255) (t : Byts) : gMap (putMap ep ss os ++ t) = some ((ep, ss, os), t) := by
  unfold gMap putMap
  have h1 := gMany_put (g := gNum 4) ss (fun x hx => fun t => gNum_be 4 x t (num_be4 x (hs x hx)))
  have h2 := gMany_put (g := gNum 1) os (fun x hx => fun t => gNum_be 1 x t (num_be1 x (ho x hx)))
  rw [he] at h2
  rw [List.append_assoc, List.append_assoc, List.append_assoc, gNum_be _ _ _ (num_be2 _ h0)]
  simp [gNum_be _ _ _ (num_be1 (ss.length : Int) (by omega)), h1, h2]

theorem bds_le (sh : Int) : (bds sh).1 ≤ 4 ∧ (bds sh).2.2 ≤ 16 := by
  unfold bds; split
  · simp
  · split
    · simp
    · split <;> simp
theorem bds_sh {sh : Int} (h : 1 ≤ (bds sh).1) : 0 ≤ sh ∧ sh ≤ 2 := by
  unfold bds at h
  split at h
  · omega
  · split at h
    · omega
    · split at h
      · omega
      · simp at h
theorem may_feat {fid sh : Int} {rs : List (List P2)} (h : Shp.May fid sh rs) : (1 ≤ fid ∧ fid ≤ 65535) ∧ (0 ≤ sh ∧ sh ≤ 2) ∧ rs.length ≤ 4 ∧ ∀ r ∈ rs, r.length ≤ 16 ∧ ∀ p ∈ r, Pt p.1 p.2 := by
  obtain ⟨a, b, ⟨c1, c2, c3⟩, d, -⟩ := h
  have hb := bds_le sh
  refine ⟨⟨a, b⟩, bds_sh (by omega), by omega, fun r hr => ⟨by have := (c3 r hr).2; omega, fun p hp => d p (List.mem_flatten.2 ⟨r, hr, hp⟩)⟩⟩
theorem may_map {ep : Int} {ss os : List Int} (h : MapOk ep ss os 8) : (1 ≤ ep ∧ ep ≤ 65535) ∧ (1 ≤ ss.length ∧ ss.length ≤ 32) ∧ os.length = ss.length ∧ (∀ x ∈ ss, 0 ≤ x ∧ x ≤ 4294967295) ∧ (∀ x ∈ os, 0 ≤ x ∧ x ≤ 7) := by
  obtain ⟨⟨-, -, a, b, c, d, e, f⟩, h⟩ := h
  have pos : ∀ i, i < ss.length → 0 ≤ it ss i := by
    intro i
    induction i with
    | zero => intro _; omega
    | succ i ih =>
      intro hi
      have h1 := ih (by omega)
      have h2 := (h (i + 1) hi).2.2.2 (by omega)
      simp at h2
      omega
  refine ⟨⟨a, b⟩, ⟨c, d⟩, e, fun x hx => ?_, fun x hx => ?_⟩
  · obtain ⟨i, hi, rfl⟩ := List.mem_iff_getElem.1 hx
    have h1 := pos i hi
    have h2 := (h i hi).1
    rw [it_eq hi] at h1 h2
    omega
  · obtain ⟨i, hi, rfl⟩ := List.mem_iff_getElem.1 hx
    have h2 := (h i (by omega)).2
    rw [it_eq hi] at h2
    omega
theorem gOp_put (o : OpV) (h : OpMay o) (t : Byts) : gOp (putOp o ++ t) = some (o, t) := by
  obtain ⟨kind, fid, sh, rs, id, ep, ss, os⟩ := o
  rcases h with ⟨h1, h2, h3, h4, h5, h6⟩ | ⟨h1, h2, ⟨h3, h4, h5⟩, h6, h7, h8⟩ | ⟨h1, h2, h3, h4, h5, h6⟩
  all_goals dsimp only at *
  · subst h1 h3 h4 h5 h6
    have m := may_feat h2
    unfold gOp putOp
    rw [List.append_assoc, gNum_be _ _ _ (num_be1 _ (by dsimp only; omega))]
    simp [gFeat_put fid sh rs (by omega) (by omega) (by omega) (fun r hr => ⟨by have := (m.2.2.2 r hr).1; omega, (m.2.2.2 r hr).2⟩)]
  · subst h1 h3 h4 h5 h6 h7 h8
    unfold gOp putOp
    rw [List.append_assoc, gNum_be _ _ _ (num_be1 _ (by dsimp only; omega))]
    simp [gNum_be _ _ _ (num_be2 id (by omega))]
  · subst h1 h3 h4 h5 h6
    have m := may_map h2
    unfold gOp putOp
    rw [List.append_assoc, gNum_be _ _ _ (num_be1 _ (by dsimp only; omega))]
    simp [gMap_put ep ss os (by omega) (by omega) m.2.2.1 m.2.2.2.1 (fun x hx => by have := m.2.2.2.2 x hx; omega)]
theorem gOps_put (l : List OpV) (h : OpsMay l) (t : Byts) : gOps (putOps l ++ t) = some (l, t) := by
  unfold gOps putOps
  obtain ⟨⟨h1, h2⟩, h3, -⟩ := h
  rw [List.append_assoc, gNum_be _ _ _ (num_be1 _ (by omega))]
  simp [gMany_put l (fun o ho => gOp_put o (h3 o ho))]
theorem gName_put (n s : Int) (h : NameMay n s) (t : Byts) : gName (putName n s ++ t) = some ((n, s), t) := by
  unfold gName putName
  obtain ⟨⟨h1, h2⟩, h3, h4⟩ := h
  rw [List.append_assoc, gNum_be _ _ _ (num_be1 _ (by omega))]
  simp [gNum_be _ _ _ (num_be2 s (by omega))]
/-- A record that may be is read back whole. -/
theorem gRec_put (r : RecV) (h : RMay r) : gRec (putRec r) = some (r, []) := by
  have key : ∀ t, gRec (putRec r ++ t) = some (r, t) := by
    intro t
    obtain ⟨kind, node, sq, base, commit, ep, ss, os, ops⟩ := r
    rcases h with ⟨h1, h2, ⟨h3, h4⟩, h5, h6, h7⟩ | ⟨h1, h2, h3, h4, h5, h6, h7, h8⟩ | ⟨h1, h2, ⟨h3, h4, h5⟩, h6, h7⟩ | ⟨h1, h2, h3, ⟨h4, h5, h6⟩, h7, h8⟩
    all_goals dsimp only at *
    · subst h1 h3 h4 h5 h6 h7
      have m := may_map h2
      unfold gRec putRec
      rw [List.append_assoc, gNum_be _ _ _ (num_be1 _ (by dsimp only; omega))]
      simp [gMap_put ep ss os (by omega) (by omega) m.2.2.1 m.2.2.2.1 (fun x hx => by have := m.2.2.2.2 x hx; omega)]
    · subst h5 h6 h7 h8
      unfold BaseMay at h3
      unfold gRec putRec
      rw [List.append_assoc, gNum_be _ _ _ (num_be1 _ (by dsimp only; omega))]
      have k0 : ¬ kind = 0 := by omega
      simp [k0, h1, gName_put _ _ h2, gNum_be _ _ _ (num_be4 (base + 1) (by omega)), gOps_put _ h4]
    · subst h1 h3 h4 h5 h6 h7
      unfold gRec putRec
      rw [List.append_assoc, gNum_be _ _ _ (num_be1 _ (by dsimp only; omega))]
      have hf : ∀ t, gBool (be 1 (flagOf commit) ++ t) = some (commit, t) := fun t => by
        unfold gBool
        rw [gNum_be _ _ _ (num_be1 _ (by unfold flagOf; split <;> omega))]
        cases commit <;> simp [flagOf]
      simp [gName_put _ _ h2, hf]
    · subst h1 h3 h4 h5 h6 h7 h8
      unfold gRec putRec
      rw [List.append_assoc, gNum_be _ _ _ (num_be1 _ (by dsimp only; omega))]
      simp [gName_put _ _ h2]
  simpa using key []
end Go.Proofs.YtmjliomgkcmjaaaGreat.RecW

set_option linter.all false
/-! A drawn region whose LAST operation, one that waits for all the others (for some of them through another one), writes a cell that the region has read: the held condition need not outlive that operation. -/
namespace Go
namespace HeldY
section
variable {P : Program} {ops : Array Oper} {Q : Exit → Act → World → Prop} {md : Region.Mode} {S : World → Prop}

def lastB (md : Region.Mode) (ops : Array Oper) (j : Nat) : Bool := (List.range ops.size).all fun k => decide (k = j) || Region.waitsFor md ops j k || (List.range ops.size).any fun m => Region.waitsFor md ops j m && Region.waitsFor md ops m k
/-- What stands in the list has all that it waits for in it too. -/
def downB (md : Region.Mode) (ops : Array Oper) (listed : Array Bool) : Bool := (List.range ops.size).all fun m => !(listed.getD m true) || (List.range ops.size).all fun k => !(Region.waitsFor md ops m k) || listed.getD k true
def Down (md : Region.Mode) (ops : Array Oper) (listed : Array Bool) : Prop := ∀ m k, m < ops.size → k < ops.size → listed.getD m true = true → Region.waitsFor md ops m k = true → listed.getD k true = true
theorem down_spec {listed : Array Bool} (h : downB md ops listed = true) : Down md ops listed := by
  intro m k hm hk hl hw
  have h1 := List.all_eq_true.1 h m (List.mem_range.2 hm)
  rw [hl] at h1
  simp only [Bool.not_true, Bool.false_or] at h1
  have h2 := List.all_eq_true.1 h1 k (List.mem_range.2 hk)
  rw [hw] at h2
  simpa using h2

def wpAnyX (P : Program) (md : Region.Mode) (ops : Array Oper) (Q : Exit → Act → World → Prop) (S : World → Prop) : Nat → Array Bool → Act → World → Prop
  | 0, listed, a, w => Region.ready md ops listed = [] ∧ Q .normal a w
  | fuel + 1, listed, a, w =>
    (Region.ready md ops listed = [] → Q .normal a w) ∧
    ∀ i ∈ Region.ready md ops listed, wpOp P ops Q i (fun a' w' => (S w' ∧ wpAnyX P md ops Q S fuel (listed.setIfInBounds i true) a' w') ∨ (lastB md ops i = true ∧ Q .normal a' w')) a w

theorem getD_set_self {l : Array Bool} {i : Nat} : (l.setIfInBounds i true).getD i true = true := by
  rcases Nat.lt_or_ge i l.size with h | h <;> simp [Array.getD, h]

theorem both_ways {l : Array Bool} {k : Nat} (h0 : l.getD k true = false) (h1 : l.getD k false = true) : False := by
  by_cases h : k < l.size
  · simp [Array.getD, h] at h0 h1
    exact absurd h1 (by simp [h0])
  · simp [Array.getD, h] at h1

/-- Of two that are ready neither waits for the other. -/
theorem no_wait {listed : Array Bool} {i j : Nat} (hi : i ∈ Region.ready md ops listed) (hj : j ∈ Region.ready md ops listed) : Region.waitsFor md ops j i = false := by
  cases hw : Region.waitsFor md ops j i with
  | false => rfl
  | true =>
    obtain ⟨o1, ho1, e, he, hb, hon⟩ := Region.waitsFor_spec hw
    obtain ⟨_, o2, ho2, hall⟩ := mem_ready.1 hj
    cases ho1.symm.trans ho2
    exact (both_ways (mem_ready.1 hi).1 (hon ▸ hall e he hb)).elim

theorem of_ready {listed : Array Bool} {i k : Nat} (hi : i ∈ Region.ready md ops listed) (hw : Region.waitsFor md ops i k = true) : listed.getD k true = true := by
  obtain ⟨oi, hoi, e, he, hb, hon⟩ := Region.waitsFor_spec hw
  obtain ⟨_, oi', hoi', hall⟩ := mem_ready.1 hi
  cases hoi.symm.trans hoi'
  have h := hall e he hb
  rw [hon] at h
  cases hx : listed.getD k true with
  | true => rfl
  | false => exact (both_ways hx h).elim
theorem last_spec {listed : Array Bool} {i : Nat} (hd : Down md ops listed) (hi : i ∈ Region.ready md ops listed) (h : lastB md ops i = true) {k : Nat} (hk : k < ops.size) (hki : k ≠ i) : listed.getD k true = true := by
  have h1 := List.all_eq_true.1 h k (List.mem_range.2 hk)
  simp only [hki, decide_false, Bool.false_or, Bool.or_eq_true] at h1
  rcases h1 with h1 | h1
  · exact of_ready hi h1
  · obtain ⟨m, hm, h2⟩ := List.any_eq_true.1 h1
    simp only [Bool.and_eq_true] at h2
    exact hd m k (List.mem_range.1 hm) hk (of_ready hi h2.1) h2.2
theorem getD_mono {l : Array Bool} {i k : Nat} (h : l.getD k true = true) : (l.setIfInBounds i true).getD k true = true := by
  by_cases e : i = k
  · subst e; exact getD_set_self
  · rw [getD_set_ne true e]; exact h
theorem Down.more {listed : Array Bool} {i : Nat} (hd : Down md ops listed) (hi : i ∈ Region.ready md ops listed) : Down md ops (listed.setIfInBounds i true) := by
  intro m k hm hk hl hw
  by_cases e : i = m
  · subst e; exact getD_mono (of_ready hi hw)
  · rw [getD_set_ne true e] at hl
    exact getD_mono (hd m k hm hk hl hw)
theorem ready_last {listed : Array Bool} {i : Nat} (hd : Down md ops listed) (hi : i ∈ Region.ready md ops listed) (h : lastB md ops i = true) : Region.ready md ops (listed.setIfInBounds i true) = [] := by
  refine List.eq_nil_iff_forall_not_mem.2 fun k hk => ?_
  obtain ⟨hun, ok, hok, _⟩ := mem_ready.1 hk
  by_cases hki : k = i
  · subst hki; rw [getD_set_self] at hun; cases hun
  · rw [getD_set_ne true (Ne.symm hki), last_spec hd hi h (Array.getElem?_eq_some_iff.1 hok).1 hki] at hun
    cases hun

theorem wpAny_of_X : ∀ (fuel : Nat) (listed : Array Bool) (a : Act) (w : World), Down md ops listed → wpAnyX P md ops Q S fuel listed a w → wpAny P md ops Q fuel listed a w
  | 0, _, _, _, _, h => h
  | fuel + 1, listed, _, _, hd, h => ⟨h.1, fun i hi => wpOp_mono (fun a' w' h' => by
      rcases h' with h' | ⟨h1, h2⟩
      · exact wpAny_of_X fuel _ a' w' (hd.more hi) h'.2
      · have hr := ready_last hd hi h1
        cases fuel with
        | zero => exact ⟨hr, h2⟩
        | succ n => exact ⟨fun _ => h2, by rw [hr]; simp⟩) (h.2 i hi)⟩

/-- What may come ahead of number i, and is not there yet, is apart from it. -/
def Clear (md : Region.Mode) (ops : Array Oper) (i : Nat) (oi : Oper) (listed : Array Bool) : Prop :=
  ∀ j oj, ops[j]? = some oj → j ≠ i → listed.getD j true = false → (∀ e ∈ oj.after, Region.binds md e = true → e.on ≠ i) → oi.apart ops oj = true

theorem Clear.more {i : Nat} {oi : Oper} {listed : Array Bool} (h : Clear md ops i oi listed) {j : Nat} (hj : listed.getD j true = false) : Clear md ops i oi (listed.setIfInBounds j true) :=
  fun k ok hk hki hun => h k ok hk hki (if e : j = k then e ▸ hj else by rwa [getD_set_ne true e] at hun)

theorem wpAnyX_first {i : Nat} {oi : Oper} {v : Value} (hi : ops[i]? = some oi) (hsel : ∀ (j : Nat) (o : Oper) cs b, ops[j]? = some o → o.op ≠ .select cs b)
    (hQ : ∀ c a w, Q (.panic c) (a.put oi.dst v) w → Q (.panic c) a w) (fuel : Nat) : ∀ (listed : Array Bool) (a : Act) (w : World),
      Down md ops listed → Clear md ops i oi listed → i ∈ Region.ready md ops listed → YieldsIf P ops S oi v a → S w →
      wpAnyX P md ops Q S fuel (listed.setIfInBounds i true) (a.put oi.dst v) w → wpAnyX P md ops Q S (fuel + 1) listed a w := by
  induction fuel with
  | zero =>
    intro listed a w hd _ hr hy hS H
    refine ⟨fun h => absurd hr (by simp [h]), fun j hj => ?_⟩
    if e : j = i then exact e ▸ hy.wpOp hi hS (.inl ⟨hS, H⟩)
    else exact absurd (ready_mono hj e) (by simp [H.1])
  | succ fuel ih =>
    intro listed a w hd hC hr hy hS H
    refine ⟨fun h => absurd hr (by simp [h]), fun j hj => ?_⟩
    if e : j = i then exact e ▸ hy.wpOp hi hS (.inl ⟨hS, H⟩)
    else
      have hno := no_wait hr hj
      obtain ⟨hun, oj, hoj, _⟩ := mem_ready.1 hj
      have hap : oi.apart ops oj = true := hC j oj hoj e hun (fun d hd hb hon => by
        have : Region.waitsFor md ops j i = true := by
          unfold Region.waitsFor
          simp only [hoj]
          exact Array.any_eq_true'.2 ⟨d, hd, by simp [hb, hon]⟩
        simp [hno] at this)
      refine wpOp_mono (fun a' w' h3 => ?_) (wpOp_putIf hoj hap (fun cs b => hsel i oi cs b hi) (fun cs b => hsel j oj cs b hoj) hQ hy (H.2 j (ready_mono hj e)))
      cases h3.2 with
      | inl h4 => exact .inl ⟨h4.1, ih _ a' w' (hd.more hj) (hC.more hun) (ready_mono hr (Ne.symm e)) h3.1 h4.1 (Array.setIfInBounds_comm _ _ e ▸ h4.2)⟩
      | inr h4 =>
        have h5 := last_spec hd hj h4.1 (Array.getElem?_eq_some_iff.1 hi).1 (Ne.symm e)
        rw [(mem_ready.1 hr).1] at h5
        cases h5

theorem wpAnyX_take {i : Nat} {oi : Oper} {v : Value} {fuel : Nat} {listed : Array Bool} {a : Act} {w : World} (hi : ops[i]? = some oi)
    (hd : downB md ops listed = true) (hs : Region.noSelect ops = true) (hf : Region.free md ops listed i = true) (hr : (Region.ready md ops listed).contains i = true)
    (hQ : ∀ c a w, Q (.panic c) (a.put oi.dst v) w → Q (.panic c) a w) (hy : YieldsIf P ops S oi v a) (hS : S w)
    (h : wpAnyX P md ops Q S fuel (listed.setIfInBounds i true) (a.put oi.dst v) w) : wpAnyX P md ops Q S (fuel + 1) listed a w :=
  wpAnyX_first hi (Region.noSelect_spec hs) hQ fuel listed a w (down_spec hd) (Region.free_spec hi hf) (by simpa using hr) hy hS h

theorem wpAnyX_step {i : Nat} {o : Oper} {fuel : Nat} {listed : Array Bool} {a : Act} {w : World} (hr : Region.ready md ops listed = [i]) (ho : ops[i]? = some o)
    (h : ∀ K' : Act → World → Prop, Shut (∀ a w, S w → (S w → wpAnyX P md ops Q S fuel (listed.setIfInBounds i true) a w) → K' a w) → if Region.wanted o (yielded ops a.tmps) = true then Oper.wp P o a w K' Q else K' (a.put o.dst undef) w) :
    wpAnyX P md ops Q S (fuel + 1) listed a w :=
  ⟨fun h0 => by (rw [hr] at h0; cases h0), fun j hj => by
    rw [hr] at hj
    cases List.mem_singleton.1 hj
    exact wpOp_step ho (fun K' hK => h K' (fun a w hS hW => hK a w (.inl ⟨hS, hW hS⟩)))⟩

theorem wpAnyX_last {i : Nat} {o : Oper} {fuel : Nat} {listed : Array Bool} {a : Act} {w : World} (hr : Region.ready md ops listed = [i]) (hall : lastB md ops i = true) (ho : ops[i]? = some o)
    (h : ∀ K' : Act → World → Prop, Shut (∀ a w, Q .normal a w → K' a w) → if Region.wanted o (yielded ops a.tmps) = true then Oper.wp P o a w K' Q else K' (a.put o.dst undef) w) :
    wpAnyX P md ops Q S (fuel + 1) listed a w :=
  ⟨fun h0 => by (rw [hr] at h0; cases h0), fun j hj => by
    rw [hr] at hj
    cases List.mem_singleton.1 hj
    exact wpOp_step ho (fun K' hK => h K' (fun a w hq => hK a w (.inr ⟨hall, hq⟩)))⟩

theorem wp_region_X {id : Nat} {a : Act} {w : World} (hm : P.follows .mixedOrders = true) (hS : S w.drew)
    (h : S w.drew → wpAnyX P .any ops Q S ops.size (Array.replicate ops.size false) a w.drew) : (Code.region id ops true).wp P Q a w :=
  wp_region_any hm (wpAny_of_X _ _ _ _ (fun m k hm _ hl _ => by
    have : (Array.replicate ops.size false).getD m true = false := by simp [Array.getD, hm]
    rw [this] at hl
    cases hl) (h hS))
end
end HeldY
end Go

/-
  Records as bytes: texts that are lists of bytes, rows of the call's own that grow by one, the two frames (a writer's, a reader's).
-/
namespace Go.Proofs.YtmjliomgkcmjaaaGreat.RecW
open Go.RowKit Shp IntW WideW CovW
set_option linter.all false

/-! Texts. -/
def strV (l : Byts) : Value := .string ⟨l.toArray⟩
def bv (b : UInt8) : Value := .int .u8 (b.toNat : Int)
def bCells (l : Byts) : List Value := l.map bv
theorem bCells_len (l : Byts) : (bCells l).length = l.length := by simp [bCells]
theorem bCells_app (l m : Byts) : bCells (l ++ m) = bCells l ++ bCells m := by simp [bCells]
theorem bCells_one {l : Byts} {u : Value} (h : u ∈ bCells l) : u.oneCell' = true := by
  unfold bCells at h
  obtain ⟨p, -, rfl⟩ := List.mem_map.1 h
  rfl
theorem bCells_at {l : Byts} {i : Nat} (h : i < l.length) : (bCells l)[i]? = some (bv l[i]) := by simp [bCells, h]
theorem str_inj {a b : Byts} : ((⟨a.toArray⟩ : ByteArray) = ⟨b.toArray⟩) ↔ a = b := by
  constructor
  · intro h; injection h with h; simpa using h
  · rintro rfl; rfl
theorem strV_inj {a b : Byts} (h : strV a = strV b) : a = b := by
  unfold strV at h; injection h with h; exact str_inj.1 h
theorem strV_of (s : ByteArray) : Value.string s = strV s.data.toList := by
  unfold strV; congr
theorem ext_lo (l : Byts) (n : Nat) : (⟨l.toArray⟩ : ByteArray).extract n l.length = ⟨(l.drop n).toArray⟩ := by
  apply ByteArray.ext
  simp [ByteArray.data_extract]
  exact List.take_of_length_le (by simp)
theorem beq_dec (a b : Byts) : (a == b) = decide (a = b) := by rw [Bool.eq_iff_iff]; simp
theorem app_str (a b : Byts) : (⟨a.toArray⟩ : ByteArray) ++ ⟨b.toArray⟩ = ⟨(a ++ b).toArray⟩ := by
  apply ByteArray.ext
  simp
theorem eq_guard (x y : Operand) (a b : Byts) (w : World) : (eqGuard .eql 9 x y (strV a) (strV b)).run Tryz.prog w = .ok () w := by
  unfold strV
  simp [go_sem, eqGuard]
theorem ne_guard (x y : Operand) (a b : Byts) (w : World) : (eqGuard .neq 9 x y (strV a) (strV b)).run Tryz.prog w = .ok () w := by
  unfold strV
  simp [go_sem, eqGuard]
theorem eq_str (a b : Byts) (w : World) : (binOp .eql 9 (strV a) (strV b)).run Tryz.prog w = .ok (.bool (decide (a = b))) w := by
  unfold strV
  simp [go_sem, binOp, Op.stringOp, str_inj, beq_dec]
theorem ne_str (a b : Byts) (w : World) : (binOp .neq 9 (strV a) (strV b)).run Tryz.prog w = .ok (.bool (!decide (a = b))) w := by
  unfold strV
  simp [go_sem, binOp, Op.stringOp, str_inj, beq_dec]
theorem add_str (a b : Byts) (h : a.length + b.length ≤ 1000000) (w : World) : (binOp .add 9 (strV a) (strV b)).run Tryz.prog w = .ok (strV (a ++ b)) w := by
  unfold strV
  simp [go_sem, binOp]
  rw [if_neg (by omega), app_str]
theorem cut_lo (l : Byts) (n : Nat) (h : n ≤ l.length) (w : World) : (Instr.sliceAt 9 (strV l) (some (.int .i64 (n : Int))) none none).run Tryz.prog w = .ok (strV (l.drop n)) w := by
  unfold strV
  simp [go_sem]
  rw [if_pos h, ext_lo]

/-! A row that grows by one. -/
theorem app1_wp {o : Oper} {a : Act} {w : World} {K : Act → World → Prop} {Q : Exit → Act → World → Prop} {T ety : TypeId} {size bytes : Nat} {z : Value} (hT : Tryz.prog.underlying T = some (.slice ety))
    (hinfo : (Tryz.prog.info? ety).map (fun i => (i.zero, i.size, i.bytes)) = some (some z, size, bytes)) (hzs : z.cells.size = size) (hsz : 0 < size) (s x : Operand)
    (ho : o.op = .call { callee := .builtin .append, args := #[s, x], argTypes := #[T, T] }) {base n g : Nat} {v : Value} {xs cs : List Value} {t : TypeId} (hs : a.eval s = v) (hx : a.eval x = .slice (some ⟨g, 0, none⟩) 1 1)
    (hown : w.ownsRow base ety size v n xs) (hg : Blk w g t cs.toArray) (hc : cs.length = size) (h1 : ∀ u ∈ cs, u.oneCell' = true) (hn : n ≤ 1000000) (hb : bytes ≤ 1000) (hbase : base ≤ w.heap.size)
    (h : ∀ v' w', w'.ownsRow base ety size v' (n + 1) (xs ++ cs) → Frm w w' v v' → K (a.put o.dst v') w') : Oper.wp Tryz.prog o a w K Q := by
  obtain ⟨i0, hi0, hz0, hz1, hz2⟩ := infoP hinfo
  have hnb : (n + 1) * bytes ≤ 140737488355328 := Nat.le_trans (Nat.mul_le_mul (show n + 1 ≤ 1000001 by omega) hb) (by decide)
  refine wp_append_lies w s x T ho base ety i0 z size bytes hT hi0 hz0 hz1 hz2 hzs hsz v n xs hs hown ⟨g, 0, none⟩ 1 1 cs hx (by omega) (fun j u hu => ?_) h1 (by omega) (by unfold maxLen; omega) hnb hbase w.heap.size rfl ?_
  · have ea : (⟨g, 0, none⟩ : Addr).add j = ⟨g, j, none⟩ := by unfold Addr.add; split <;> simp_all
    rw [ea, hg.cell]
    simpa using hu
  · intro g' cap w' hr hg' hat hlt
    refine h _ w' hr ⟨hg', fun k hk => ?_⟩
    have e : g' = k := by simpa [Value.ownBlock] using hk
    subst e
    rcases hat with h | h
    · exact .inl h
    · exact .inr (by omega)
theorem app1_step {ops : Array Oper} {o : Oper} {a : Act} {w : World} {K : Act → World → Prop} {Q : Exit → Act → World → Prop} {E : Prop} {T ety : TypeId} {size bytes : Nat} {z : Value} (hT : Tryz.prog.underlying T = some (.slice ety))
    (hinfo : (Tryz.prog.info? ety).map (fun i => (i.zero, i.size, i.bytes)) = some (some z, size, bytes)) (hzs : z.cells.size = size) (hsz : 0 < size) (hgd : o.guard = none) (s x : Operand)
    (ho : o.op = .call { callee := .builtin .append, args := #[s, x], argTypes := #[T, T] }) {base n g : Nat} {v : Value} {xs cs : List Value} {t : TypeId} (hs : a.eval s = v) (hx : a.eval x = .slice (some ⟨g, 0, none⟩) 1 1)
    (hown : w.ownsRow base ety size v n xs) (hg : Blk w g t cs.toArray) (hc : cs.length = size) (h1 : ∀ u ∈ cs, u.oneCell' = true) (hn : n ≤ 1000000) (hb : bytes ≤ 1000) (hbase : base ≤ w.heap.size)
    (h : ∀ v' w', w'.ownsRow base ety size v' (n + 1) (xs ++ cs) → Frm w w' v v' → K (a.put o.dst v') w') : if Region.wanted o (yielded ops a.tmps) = true then Oper.wp Tryz.prog o a w K Q else E := by
  have hw : Region.wanted o (yielded ops a.tmps) = true := by simp [Region.wanted, hgd]
  rw [if_pos hw]
  exact app1_wp hT hinfo hzs hsz s x ho hs hx hown hg hc h1 hn hb hbase h
theorem app1_list {ops : Array Oper} {rest : List Oper} {o : Oper} {a : Act} {w : World} {Q : Exit → Act → World → Prop} {T ety : TypeId} {size bytes : Nat} {z : Value} (hT : Tryz.prog.underlying T = some (.slice ety))
    (hinfo : (Tryz.prog.info? ety).map (fun i => (i.zero, i.size, i.bytes)) = some (some z, size, bytes)) (hzs : z.cells.size = size) (hsz : 0 < size) (hgd : o.guard = none) (s x : Operand)
    (ho : o.op = .call { callee := .builtin .append, args := #[s, x], argTypes := #[T, T] }) {base n g : Nat} {v : Value} {xs cs : List Value} {t : TypeId} (hs : a.eval s = v) (hx : a.eval x = .slice (some ⟨g, 0, none⟩) 1 1)
    (hown : w.ownsRow base ety size v n xs) (hg : Blk w g t cs.toArray) (hc : cs.length = size) (h1 : ∀ u ∈ cs, u.oneCell' = true) (hn : n ≤ 1000000) (hb : bytes ≤ 1000) (hbase : base ≤ w.heap.size)
    (h : ∀ v' w', w'.ownsRow base ety size v' (n + 1) (xs ++ cs) → Frm w w' v v' → wpList Tryz.prog ops Q rest (a.put o.dst v') w') : wpList Tryz.prog ops Q (o :: rest) a w := by
  refine wpList_plain hgd fun K hK => ?_
  exact app1_wp hT hinfo hzs hsz s x ho hs hx hown hg hc h1 hn hb hbase (fun v' w' h1 h2 => hK _ _ (h v' w' h1 h2))
theorem byte_info : (Tryz.prog.info? 5).map (fun i => (i.zero, i.size, i.bytes)) = some (some (.int .u8 0), 1, 1) := by kernel_rfl
theorem int_info : (Tryz.prog.info? 3).map (fun i => (i.zero, i.size, i.bytes)) = some (some (.int .i64 0), 1, 8) := by kernel_rfl
theorem pnt_info : (Tryz.prog.info? 74).map (fun i => (i.zero, i.size, i.bytes)) = some (some (.agg #[.int .i64 0, .int .i64 0]), 2, 16) := by kernel_rfl
theorem rng_info : (Tryz.prog.info? 75).map (fun i => (i.zero, i.size, i.bytes)) = some (some (.slice none 0 0), 1, 24) := by kernel_rfl

/-! A writer's frame: its own block n and rows of bytes may turn, nothing else. -/
structure Kw (n : Nat) (w w' : World) : Prop where
  os : w'.os = w.os
  tape : w'.tape = w.tape
  output : w'.output = w.output
  size : w.heap.size ≤ w'.heap.size
  below : ∀ k, k < n → w'.heap[k]? = w.heap[k]?
  block : ∀ k cs t x, k ≠ n → w.heap[k]? = some (.cells cs t x) → t ≠ 5 → w'.heap[k]? = some (.cells cs t x)
/-- A reader's: its own block. -/
structure Kr (n : Nat) (w w' : World) : Prop where
  os : w'.os = w.os
  tape : w'.tape = w.tape
  output : w'.output = w.output
  size : w.heap.size ≤ w'.heap.size
  block : ∀ k, k < w.heap.size → k ≠ n → w'.heap[k]? = w.heap[k]?
section
variable {n : Nat} {w w' w'' : World}
theorem Kw.refl (n : Nat) (w : World) : Kw n w w := ⟨rfl, rfl, rfl, Nat.le_refl _, fun _ _ => rfl, fun _ _ _ _ _ h _ => h⟩
theorem Kw.trans (h : Kw n w w') (k : Kw n w' w'') : Kw n w w'' :=
  ⟨k.os.trans h.os, k.tape.trans h.tape, k.output.trans h.output, Nat.le_trans h.size k.size, fun i hi => (k.below i hi).trans (h.below i hi), fun i cs t x hi hc ht => k.block i cs t x hi (h.block i cs t x hi hc ht) ht⟩
theorem Kw.of_below (h : Below w.heap.size w w') (hn : n < w.heap.size) : Kw n w w' :=
  ⟨h.os, h.tape, h.output, h.size, fun k hk => h.block k (by omega), fun k cs t x _ hc _ => (h.block k (Array.getElem?_eq_some_iff.1 hc).1).trans hc⟩
theorem Kw.alloc (h : Kw n w w') (hn : n < w'.heap.size) (o : Obj) : Kw n w (w'.alloc o) := h.trans (Kw.of_below (Ba B0) hn)
theorem Kw.drew (h : Kw n w w') : Kw n w w'.drew := ⟨h.os, h.tape, h.output, h.size, h.below, h.block⟩
theorem Kw.set (h : Kw n w w') (i : Nat) (u : Value) : Kw n w (w'.setCell ⟨n, i, none⟩ u) := by
  refine h.trans ⟨by simp [World.setCell], by simp [World.setCell], by simp [World.setCell], by simp [World.setCell], fun k hk => Below.heap_setCell w' _ u k (by show k ≠ n; omega), fun k cs t x hk hc _ => (Below.heap_setCell w' _ u k (by show k ≠ n; omega)).trans hc⟩
theorem Kw.toBelow {B : Nat} (h : Kw n w w') (hB : B ≤ n) : Below B w w' := ⟨h.os, h.tape, h.output, h.size, fun k hk => h.below k (by omega)⟩
theorem Kw.blk {g : Nat} {t : TypeId} {cs : Array Value} (h : Kw n w w') (b : Blk w g t cs) (hg : g ≠ n) (ht : t ≠ 5) : Blk w' g t cs := h.block g cs t _ hg b ht
theorem Kr.refl (n : Nat) (w : World) : Kr n w w := ⟨rfl, rfl, rfl, Nat.le_refl _, fun _ _ _ => rfl⟩
theorem Kr.trans (h : Kr n w w') (k : Kr n w' w'') : Kr n w w'' :=
  ⟨k.os.trans h.os, k.tape.trans h.tape, k.output.trans h.output, Nat.le_trans h.size k.size, fun i hi hn => (k.block i (Nat.lt_of_lt_of_le hi h.size) hn).trans (h.block i hi hn)⟩
theorem Kr.of_below (h : Below w.heap.size w w') (n : Nat) : Kr n w w' := ⟨h.os, h.tape, h.output, h.size, fun k hk _ => h.block k hk⟩
theorem Kr.alloc (h : Kr n w w') (o : Obj) : Kr n w (w'.alloc o) := h.trans (Kr.of_below (Ba B0) n)
theorem Kr.drew (h : Kr n w w') : Kr n w w'.drew := ⟨h.os, h.tape, h.output, h.size, h.block⟩
theorem Kr.set (h : Kr n w w') (i : Nat) (u : Value) : Kr n w (w'.setCell ⟨n, i, none⟩ u) :=
  h.trans ⟨by simp [World.setCell], by simp [World.setCell], by simp [World.setCell], by simp [World.setCell], fun k hk hn => Below.heap_setCell w' _ u k (by show k ≠ n; omega)⟩
/-- A block that is new behind w may be written. -/
theorem Kr.far (h : Kr n w w') {p : Addr} (hp : w.heap.size ≤ p.block) (u : Value) : Kr n w (w'.setCell p u) :=
  ⟨by simpa [World.setCell] using h.os, by simpa [World.setCell] using h.tape, by simpa [World.setCell] using h.output, by simpa [World.setCell] using h.size, fun k hk hn => (Below.heap_setCell w' _ u k (by omega)).trans (h.block k hk hn)⟩
theorem Kr.grown (h : Kr n w w') {row : Option Nat} (hg : w'.grownBy w'' row) (hr : ∀ k, row = some k → w.heap.size ≤ k) : Kr n w w'' :=
  ⟨hg.os.trans h.os, hg.tape.trans h.tape, hg.output.trans h.output, Nat.le_trans h.size hg.size, fun k hk hn => (hg.block k (Nat.lt_of_lt_of_le hk h.size) (fun e => by have := hr k e.symm; omega)).trans (h.block k hk hn)⟩
theorem Kr.toBelow {B : Nat} (h : Kr n w w') (hB : B ≤ n) (hs : B ≤ w.heap.size) : Below B w w' := ⟨h.os, h.tape, h.output, h.size, fun k hk => h.block k (by omega) (by omega)⟩
theorem Kr.blk {g : Nat} {t : TypeId} {cs : Array Value} (h : Kr n w w') (b : Blk w g t cs) (hg : g ≠ n) : Blk w' g t cs := (h.block g b.lt hg).trans b
theorem own_kr {base : Nat} {e : TypeId} {size m : Nat} {v : Value} {xs : List Value} (b : w.ownsRow base e size v m xs) (h : Kr n w w') (hn : n < base) : w'.ownsRow base e size v m xs := by
  refine World.ownsRow.kept b (row := some n) ⟨h.os, h.tape, h.output, h.size, fun k hk hne => h.block k hk (fun e => hne (by rw [e]))⟩ ?_
  exact .inr fun e => by have := (World.ownsRow.lt b n e).1; omega
end

/-- Block n is a writer that has written bs. -/
def Wr (W : World) (n : Nat) (bs : Byts) : Prop := ∃ v, Blk W n 83 #[v] ∧ W.ownsRow (n + 1) 5 1 v bs.length (bCells bs)
theorem Wr.lt {W : World} {n : Nat} {bs : Byts} (h : Wr W n bs) : n < W.heap.size := by obtain ⟨v, b, -⟩ := h; exact b.lt
theorem Wr.keep {W W' : World} {n : Nat} {bs : Byts} (h : Wr W n bs) (hb : Below W.heap.size W W') : Wr W' n bs := by
  obtain ⟨v, b, r⟩ := h
  exact ⟨v, b.keep hb, World.ownsRow.kept r (CovW.grown_below hb none) (by cases v.ownBlock <;> simp)⟩
/-- Block n is a reader that has s ahead of it. -/
def Rr (W : World) (n : Nat) (s : Byts) : Prop := Blk W n 104 #[strV s]
theorem row_slice {W : World} {base n size : Nat} {t : TypeId} {v : Value} {xs : List Value} (h : W.ownsRow base t size v n xs) : ∃ A c, v = .slice A n c := by
  rcases h.2 with ⟨rfl, rfl⟩ | ⟨g, cap, cur, rfl, -⟩
  · exact ⟨_, _, rfl⟩
  · exact ⟨_, _, rfl⟩
theorem flat_snoc {α : Type} (f : α → Byts) (l : List α) (k : Nat) (h : k < l.length) : (l.take (k + 1)).flatMap f = (l.take k).flatMap f ++ f l[k] := by
  rw [List.take_add_one, List.getElem?_eq_getElem h, List.flatMap_append]
  simp only [Option.toList_some, List.flatMap_cons, List.flatMap_nil, List.append_nil]
theorem flat_len {α : Type} (f : α → Byts) (l : List α) (c : Nat) (h : ∀ x ∈ l, (f x).length ≤ c) : (l.flatMap f).length ≤ c * l.length := by
  induction l with
  | nil => simp
  | cons a l ih =>
    have h1 := ih (fun x hx => h x (List.mem_cons_of_mem _ hx))
    have h2 := h a List.mem_cons_self
    rw [List.flatMap_cons, List.length_append, List.length_cons, Nat.mul_add, Nat.mul_one]
    omega
theorem ltake_len {α : Type} (l : List α) (k : Nat) : (l.take k).length ≤ l.length := by simp; omega

end Go.Proofs.YtmjliomgkcmjaaaGreat.RecW

/-
  The walks of coordMay and PointMay, the program's and the document's.
-/
namespace Go.Proofs.YtmjliomgkcmjaaaGreat.WideW
open Go.RowKit
set_option linter.all false

set_option maxHeartbeats 400000 in
theorem coord_any (x : Int) (r : Bool) (w : World) (hr : r = true ↔ 0 ≤ x ∧ x ≤ 4294967295) :
    Calls Tryz.prog 125 #[.int .i64 x] w fun e w' => e = .returned (.bool r) ∧ w = w' := by
  have HR := Lib.hid hr
  clear hr
  go_enter Tryz.func125, Tryz.ntmps125
  go_wp2
  all_goals go_ret
  all_goals refine ⟨ret_bool (bool_eq HR.out ?_), rfl⟩
  all_goals simp
  all_goals omega

set_option maxHeartbeats 400000 in
theorem pt_any (x y : Int) (r : Bool) (w : World) (hr : r = true ↔ Geom.Pt x y) :
    Calls Tryz.prog 116 #[.agg #[.int .i64 x, .int .i64 y]] w fun e w' => e = .returned (.bool r) ∧ Below w.heap.size w w' := by
  have HR := Lib.hid hr
  clear hr
  obtain ⟨rx, hx⟩ : ∃ rx : Bool, rx = true ↔ 0 ≤ x ∧ x ≤ 4294967295 := ⟨decide (0 ≤ x ∧ x ≤ 4294967295), by simp⟩
  obtain ⟨ry, hy⟩ : ∃ ry : Bool, ry = true ↔ 0 ≤ y ∧ y ≤ 4294967295 := ⟨decide (0 ≤ y ∧ y ≤ 4294967295), by simp⟩
  have HX := Lib.hid hx
  have HY := Lib.hid hy
  clear hx hy
  go_enter Tryz.func116, Tryz.ntmps116
  go_wp2_with fail
  refine (coord_any x rx _ HX.out).mono ?_
  rintro e w' ⟨rfl, rfl⟩
  cases rx
  · go_wp2_with fail
    go_ret
    refine ⟨ret_bool (bool_eq HR.out ?_), (Below.refl _ _).alloc (Nat.le_refl _) _⟩
    have := HX.out
    unfold Geom.Pt
    simp at *
    omega
  · go_wp2_with fail
    refine (coord_any y ry _ HY.out).mono ?_
    rintro e w' ⟨rfl, rfl⟩
    go_wp2_with fail
    go_ret
    refine ⟨ret_bool (bool_eq HR.out ?_), (Below.refl _ _).alloc (Nat.le_refl _) _⟩
    have := HX.out
    rw [HY.out]
    unfold Geom.Pt
    simp at *
    omega

end Go.Proofs.YtmjliomgkcmjaaaGreat.WideW
