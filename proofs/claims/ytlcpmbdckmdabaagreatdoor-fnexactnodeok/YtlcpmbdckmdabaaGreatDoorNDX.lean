/- Trees of nodes: their size, count and depth, and when they are well formed. Trees of nodes in memory. What the laws' szNode and szNodeS answer. What the laws' toNode and toNodeS answer: a copy of the tree in new memory. What the laws' eqNode and eqNodeS answer of two trees that are alike. What the program's depthOf and countNodes answer. What the specification's l03Fits answers. -/
import Derived.Test.YtlcpmbdckmdabaaGreatDoorNBX
import Derived.Test.YtlcpmbdckmdabaaGreatDoorBW
import Derived.Deep.Strs
import Derived.Laws.MakeOwn
import Derived.Deep.RegionHeld3
namespace Go.Proofs.YtlcpmbdckmdabaaGreatDoor.Nt
open Go.RowKit
inductive Nd where
  | mk (kind : Int) (text : ByteArray) (kids : List Nd)
def Nd.kind : Nd → Int | .mk k _ _ => k
def Nd.text : Nd → ByteArray | .mk _ t _ => t
def Nd.kids : Nd → List Nd | .mk _ _ ks => ks
theorem Nd.eta (n : Nd) : Nd.mk n.kind n.text n.kids = n := by cases n; rfl
mutual
/-- How great a tree is: the letters of its texts and its kids. -/
def sz : Nd → Nat
  | .mk _ t ks => t.size + szL ks
def szL : List Nd → Nat
  | [] => 0
  | x :: xs => 1 + sz x + szL xs
end
mutual
def cnt : Nd → Nat
  | .mk _ _ ks => 1 + cntL ks
def cntL : List Nd → Nat
  | [] => 0
  | x :: xs => cnt x + cntL xs
end
mutual
def dep : Nd → Nat
  | .mk _ _ ks => depL ks + 1
def depL : List Nd → Nat
  | [] => 0
  | x :: xs => max (dep x) (depL xs)
end
/-- A kind is in a set of kinds. -/
def hasB (s : Nat) (k : Int) : Bool := decide (1 ≤ k) && decide (k ≤ 47) && s.testBit k.toNat
def tgtK : Nat := 2 ^ 37 + 2 ^ 38 + 2 ^ 39
def expK : Nat := 2 ^ 36 + 2 ^ 37 + 2 ^ 38 + 2 ^ 39 + 2 ^ 40 + 2 ^ 41 + 2 ^ 42 + 2 ^ 43 + 2 ^ 44 + 2 ^ 45 + 2 ^ 46 + 2 ^ 47
def stmK : Nat := 2 ^ 27 + 2 ^ 28 + 2 ^ 29 + 2 ^ 30 + 2 ^ 33 + 2 ^ 34 + 2 ^ 35
def itmK : Nat := 2 ^ 9 + 2 ^ 10 + 2 ^ 11 + 2 ^ 12 + 2 ^ 13 + 2 ^ 14 + 2 ^ 15 + 2 ^ 16 + 2 ^ 17 + 2 ^ 18 + 2 ^ 19 + 2 ^ 20 + 2 ^ 21 + 2 ^ 22
def allK (s : Nat) (ks : List Nd) : Bool := ks.all fun x => hasB s x.kind
def fitK : List Nd → List Nat → Bool
  | [], [] => true
  | x :: xs, s :: ss => hasB s x.kind && fitK xs ss
  | [], _ :: _ => false
  | _ :: _, [] => false
def wordsL : List (List UInt8) := [[109, 111, 100, 117, 108, 101], [101, 110, 100], [105, 110], [111, 117, 116], [115, 105, 103, 110, 101, 100], [117, 110, 115, 105, 103, 110, 101, 100], [119, 105, 114, 101], [114, 101, 103], [109, 101, 109], [99, 111, 110, 115, 116], [101, 110, 117, 109], [97, 115, 115, 105, 103, 110], [99, 111, 109, 98], [111, 110], [115, 116, 97, 114, 116], [99, 104, 101, 99, 107], [102, 117, 110, 99], [102, 111, 114], [119, 104, 101, 110], [101, 108, 115, 101], [117, 115, 101], [105, 102], [99, 97, 115, 101], [100, 101, 102, 97, 117, 108, 116], [119, 97, 105, 116], [115, 116, 111, 112]]
def unL : List (List UInt8) := [[126], [45], [33], [38], [124], [94]]
def binL : List (List UInt8) := [[124, 124], [38, 38], [124], [94], [38], [61, 61], [33, 61], [61, 61, 61], [60], [60, 61], [62], [62, 61], [60, 60], [62, 62], [62, 62, 62], [43], [45], [42], [47], [37]]
/-- A name that the language does not keep for itself. -/
def nameB (l : List UInt8) : Bool := decide (l.length ≤ 24) && !l.isEmpty && (Nb.nameL l == l.length)
def freeB (t : ByteArray) : Bool := nameB (L t) && !(wordsL.contains (L t))
def sgnL : List UInt8 := [115, 105, 103, 110, 101, 100]
def nameKinds : List Int := [2, 4, 6, 7, 9, 10, 11, 12, 16, 18, 19, 20, 22, 25, 33, 37, 38, 39, 40]
/-- The text fits the kind. -/
def txB (k : Int) (t : ByteArray) : Bool :=
  if nameKinds.contains k then freeB t
  else if k = 8 then t.size == 0 || L t == sgnL
  else if k = 36 then (Nb.nbL (L t)).2.2 == 0
  else if k = 45 then unL.contains (L t)
  else if k = 46 then binL.contains (L t)
  else t.size == 0
def armsB (ks : List Nd) : Bool := match ks.getLast? with
  | some x => if x.kind = 32 then allK (2 ^ 31) ks.dropLast else allK (2 ^ 31) ks
  | none => true
/-- The kids' kinds fit the kind. -/
def kdB (k : Int) (ks : List Nd) : Bool :=
  if k = 35 ∨ k = 36 ∨ k = 37 then ks.isEmpty
  else if k = 4 ∨ k = 12 ∨ k = 18 ∨ k = 25 ∨ k = 34 ∨ k = 38 ∨ k = 43 ∨ k = 44 ∨ k = 45 then fitK ks [expK]
  else if k = 39 ∨ k = 42 ∨ k = 46 then fitK ks [expK, expK]
  else if k = 47 then fitK ks [expK, expK, expK]
  else if k = 14 ∨ k = 27 ∨ k = 28 then fitK ks [tgtK, expK]
  else if k = 8 then ks.isEmpty || fitK ks [expK]
  else if k = 6 ∨ k = 7 ∨ k = 9 then fitK ks [2 ^ 8]
  else if k = 10 then fitK ks [2 ^ 8] || fitK ks [2 ^ 8, expK]
  else if k = 11 then fitK ks [2 ^ 8, expK]
  else if k = 15 ∨ k = 16 ∨ k = 17 ∨ k = 32 then fitK ks [2 ^ 26]
  else if k = 19 then fitK ks [2 ^ 8, 2 ^ 5, expK] && allK (2 ^ 6) ((ks.drop 1).headD (.mk 0 ⟨#[]⟩ [])).kids
  else if k = 20 then fitK ks [expK, expK, 2 ^ 23]
  else if k = 33 then fitK ks [expK, expK, 2 ^ 26]
  else if k = 21 then fitK ks [expK, 2 ^ 23] || fitK ks [expK, 2 ^ 23, 2 ^ 23]
  else if k = 29 then fitK ks [expK, 2 ^ 26] || fitK ks [expK, 2 ^ 26, 2 ^ 26 + 2 ^ 29]
  else if k = 22 then fitK ks [2 ^ 37, 2 ^ 3, 2 ^ 24]
  else if k = 1 then allK (2 ^ 2) ks
  else if k = 2 then decide (2 ≤ ks.length) && fitK (ks.take 2) [2 ^ 3, 2 ^ 5] && allK itmK (ks.drop 2)
  else if k = 3 then allK (2 ^ 4) ks
  else if k = 5 then allK (2 ^ 6 + 2 ^ 7) ks
  else if k = 13 then decide (1 ≤ ks.length) && allK (2 ^ 37) ks
  else if k = 23 then allK itmK ks
  else if k = 24 then allK (2 ^ 25) ks
  else if k = 26 then allK stmK ks
  else if k = 30 then (match ks with | [] => false | x :: xs => hasB expK x.kind && armsB xs)
  else if k = 31 then decide (2 ≤ ks.length) && allK expK ks.dropLast && (match ks.getLast? with | some x => decide (x.kind = 26) | none => false)
  else if k = 40 then allK expK ks
  else if k = 41 then decide (1 ≤ ks.length) && allK expK ks
  else false
mutual
/-- All nodes of a tree have what their kinds ask for. -/
def fm : Nd → Bool
  | .mk k t ks => txB k t && kdB k ks && fmL ks
def fmL : List Nd → Bool
  | [] => true
  | x :: xs => fm x && fmL xs
end
theorem fm_mk (k : Int) (t : ByteArray) (ks : List Nd) : fm (.mk k t ks) = (txB k t && kdB k ks && fmL ks) := by rw [fm]
theorem fmL_all (ks : List Nd) : fmL ks = ks.all fm := by
  induction ks with
  | nil => rw [fmL]; rfl
  | cons x xs ih => rw [fmL, ih]; rfl
/-- The set of kinds that a letter stands for. -/
def setOf (c : Nat) : Nat :=
  if c = 116 then 2 ^ 8 else if c = 110 then 2 ^ 37 else if c = 84 then tgtK else if c = 98 then 2 ^ 26 else if c = 66 then 2 ^ 26 + 2 ^ 29
  else if c = 112 then 2 ^ 3 else if c = 80 ∨ c = 70 then 2 ^ 5 else if c = 115 then 2 ^ 23 else if c = 99 then 2 ^ 24 else if c = 109 then 2 ^ 2
  else if c = 105 then itmK else if c = 83 then stmK else expK
def okIs (c : Nat) (n : Nd) : Bool := hasB (setOf c) n.kind && fm n && (c != 70 || allK (2 ^ 6) n.kids)
def kidsB : List Nd → List Nat → Bool
  | [], [] => true
  | x :: xs, c :: cs => okIs c x && kidsB xs cs
  | [], _ :: _ => false
  | _ :: _, [] => false
theorem okIs_of {c : Nat} (h : c ≠ 70) (n : Nd) : okIs c n = (hasB (setOf c) n.kind && fm n) := by
  unfold okIs
  have : (c != 70) = true := by simpa using h
  rw [this, Bool.true_or, Bool.and_true]
theorem kidsB_of : ∀ (ks : List Nd) (cs : List Nat), (∀ c ∈ cs, c ≠ 70) → kidsB ks cs = (fitK ks (cs.map setOf) && fmL ks) := by
  intro ks
  induction ks with
  | nil => intro cs h; cases cs with
    | nil => rfl
    | cons c cs => rfl
  | cons x xs ih => intro cs h; cases cs with
    | nil => rfl
    | cons c cs =>
      show (okIs c x && kidsB xs cs) = ((hasB (setOf c) x.kind && fitK xs (cs.map setOf)) && fmL (x :: xs))
      rw [okIs_of (h c (by simp)), ih cs (fun d hd => h d (by simp [hd])), fmL]
      generalize hasB (setOf c) x.kind = p
      generalize fm x = q
      generalize fitK xs (cs.map setOf) = r
      generalize fmL xs = u
      revert p q r u; decide
theorem allB_of {c : Nat} (h : c ≠ 70) (ks : List Nd) : ks.all (okIs c) = (allK (setOf c) ks && fmL ks) := by
  induction ks with
  | nil => rfl
  | cons x xs ih =>
    rw [List.all_cons, ih, okIs_of h, fmL]
    show _ = ((hasB (setOf c) x.kind && allK (setOf c) xs) && (fm x && fmL xs))
    generalize hasB (setOf c) x.kind = p
    generalize fm x = q
    generalize allK (setOf c) xs = r
    generalize fmL xs = u
    revert p q r u; decide
/-- Both limits. -/
def fitsB (n : Nd) : Bool := decide (cnt n ≤ 8192) && decide (dep n ≤ 40)
/-- What both answer. -/
def okN (n : Nd) : Bool := decide (n.kind = 1) && fitsB n && fm n
end Go.Proofs.YtlcpmbdckmdabaaGreatDoor.Nt
namespace Go.Proofs.YtlcpmbdckmdabaaGreatDoor
open Go.RowKit Nt Go.Deep
set_option linter.unusedVariables false
theorem below_step {w W W' : World} (h : Below w.heap.size w W) (h2 : Below W.heap.size W W') : Below w.heap.size w W' := h.trans (h2.mono h.size)
theorem Nd.ind {p : Nd → Prop} (h : ∀ n, (∀ x ∈ n.kids, p x) → p n) : ∀ n, p n
  | .mk k t ks => h _ (fun x hx => Nd.ind h x)
  termination_by n => SizeOf.sizeOf n
  decreasing_by
    have hx' : x ∈ ks := hx
    have := List.sizeOf_lt_of_mem hx'
    simp; omega
/-- A slice that holds the nodes of a list, each with its kids, in blocks from B on. -/
inductive RdB (W : World) (B : Nat) : List Nd → Value → Prop
  | nil (a : Option Addr) (c : Nat) : RdB W B [] (.slice a 0 c)
  | row (b o c : Nat) (kids : List Nd) (vs : Nat → Value) (hB : B ≤ b) (hn : kids.length ≤ maxLen) (hcap : kids.length ≤ c)
      (hc : ∀ i x, kids[i]? = some x → W.cell? ⟨b, o + i * 3, none⟩ = some (.int .i64 x.kind) ∧ W.cell? ⟨b, o + i * 3 + 1, none⟩ = some (.string x.text) ∧ W.cell? ⟨b, o + i * 3 + 2, none⟩ = some (vs i) ∧ x.text.size ≤ maxLen)
      (hk : ∀ i x, kids[i]? = some x → RdB W B x.kids (vs i)) : RdB W B kids (.slice (some ⟨b, o, none⟩) kids.length c)
abbrev RdK (W : World) (ks : List Nd) (v : Value) : Prop := RdB W 0 ks v
theorem RdB_keep {W W' : World} {B : Nat} (hb : ∀ b o x, B ≤ b → W.cell? ⟨b, o, none⟩ = some x → W'.cell? ⟨b, o, none⟩ = some x) {ks : List Nd} {v : Value} (h : RdB W B ks v) : RdB W' B ks v := by
  induction h with
  | nil a c => exact .nil a c
  | row b o c kids vs hB hn hcap hc hk ih =>
    exact .row b o c kids vs hB hn hcap (fun i x hx => ⟨hb _ _ _ hB (hc i x hx).1, hb _ _ _ hB (hc i x hx).2.1, hb _ _ _ hB (hc i x hx).2.2.1, (hc i x hx).2.2.2⟩) ih
theorem RdB_later {W W' : World} {B : Nat} (hb : Below W.heap.size W W') {ks : List Nd} {v : Value} (h : RdB W B ks v) : RdB W' B ks v := RdB_keep (fun _ _ _ _ hc => cell_later hb hc) h
theorem RdB_mono {W : World} {B B' : Nat} (hB : B' ≤ B) {ks : List Nd} {v : Value} (h : RdB W B ks v) : RdB W B' ks v := by
  induction h with
  | nil a c => exact .nil a c
  | row b o c kids vs hB2 hn hcap hc hk ih => exact .row b o c kids vs (Nat.le_trans hB hB2) hn hcap hc ih
theorem RdK_later {W W' : World} (hb : Below W.heap.size W W') {ks : List Nd} {v : Value} (h : RdK W ks v) : RdK W' ks v := RdB_later hb h
/-- What a slice of nodes is: its length, and each node. -/
theorem RdK_cases {W : World} {ks : List Nd} {v : Value} (h : RdK W ks v) : (ks = [] ∧ ∃ a c, v = .slice a 0 c) ∨ ∃ b o c, ∃ vs : Nat → Value, v = .slice (some ⟨b, o, none⟩) ks.length c ∧ ks.length ≤ maxLen ∧
    ∀ i x, ks[i]? = some x → W.cell? ⟨b, o + i * 3, none⟩ = some (.int .i64 x.kind) ∧ W.cell? ⟨b, o + i * 3 + 1, none⟩ = some (.string x.text) ∧ W.cell? ⟨b, o + i * 3 + 2, none⟩ = some (vs i) ∧ x.text.size ≤ maxLen ∧ RdK W x.kids (vs i) := by
  cases h with
  | nil a c => exact .inl ⟨rfl, a, c, rfl⟩
  | row b o c kids vs hB hn hcap hc hk => exact .inr ⟨b, o, c, vs, rfl, hn, fun i x hx => ⟨(hc i x hx).1, (hc i x hx).2.1, (hc i x hx).2.2.1, (hc i x hx).2.2.2, hk i x hx⟩⟩
theorem RdB_slice {W : World} {B : Nat} {ks : List Nd} {v : Value} (h : RdB W B ks v) : ∃ a c, v = .slice a ks.length c := by
  cases h with
  | nil a c => exact ⟨a, c, rfl⟩
  | row b o c kids vs hB hn hcap hc hk => exact ⟨_, c, rfl⟩
theorem RdK_slice {W : World} {ks : List Nd} {v : Value} (h : RdK W ks v) : ∃ a c, v = .slice a ks.length c := by
  cases h with
  | nil a c => exact ⟨a, c, rfl⟩
  | row b o c kids vs hB hn hcap hc hk => exact ⟨_, c, rfl⟩
theorem RdK_cap {W : World} {ks : List Nd} {a : Option Addr} {n c : Nat} (h : RdK W ks (.slice a n c)) : ks.length ≤ c := by
  generalize hv : Value.slice a n c = v at h
  cases h with
  | nil a' c' => simp
  | row b o c' kids vs hB hn hcap hc hk => injection hv with _ _ h3; rw [h3]; exact hcap
section
variable {H : Type} {enc : TypeId × Value → H} {P : Program} {w : World}
/-- A node that came in is a tree. -/
theorem open_node {tN tS tI tT : TypeId} {f0 f1 f2 : Field} (hN : P.underlying tN = some (.struct #[f0, f1, f2])) (hS : P.underlying tS = some (.slice tN)) (hI : P.underlying tI = some (.int .i64)) (hT : P.underlying tT = some .string)
    (h0 : f0.type = tI ∧ f0.offset = 0) (h1 : f1.type = tT ∧ f1.offset = 1) (h2 : f2.type = tS ∧ f2.offset = 2) (cI : P.cellsOf tI = 1) (cT : P.cellsOf tT = 1) (cS : P.cellsOf tS = 1) (cN : P.cellsOf tN = 3) :
    ∀ (fuel : Nat) (cs : List Value) (x : DataW H × List MemPlace), DataW.trod enc P w 0 (fun _ => true) true fuel tN cs = some x → ∃ (n : Nd) (v : Value), cs = [.int .i64 n.kind, .string n.text, v] ∧ n.text.size ≤ maxLen ∧ RdK w n.kids v := by
  intro fuel
  induction fuel using Nat.strongRecOn with
  | _ fuel ih =>
    intro cs x h
    obtain ⟨xs, m, hf, hx, hl, hxl, hfs⟩ := DataW.trod_struct hN h
    rw [cN] at hl
    match cs, hl with
    | [c0, c1, c2], _ =>
      have e0 := hfs 0 f0 rfl
      have e1 := hfs 1 f1 rfl
      have e2 := hfs 2 f2 rfl
      have hxl' : xs.length = 3 := hxl
      rw [h0.1, h0.2, cI, List.getElem?_eq_getElem (by omega)] at e0
      rw [h1.1, h1.2, cT, List.getElem?_eq_getElem (by omega)] at e1
      rw [h2.1, h2.2, cS, List.getElem?_eq_getElem (by omega)] at e2
      obtain ⟨k, hk, _, _⟩ := DataW.trod_int hI e0
      obtain ⟨t, ht, _, hts⟩ := DataW.trod_string hT e1
      have hk' : c0 = .int .i64 k := by simpa using hk
      have ht' : c1 = .string t := by simpa using ht
      subst hk' ht'
      rcases DataW.trod_slice hS e2 with ⟨hcs, _⟩ | ⟨a, len, cap, elems, rest, n', hf', hcs, _, _, hlc, hcm, hlen, hel, _, _⟩
      · have : c2 = .slice none 0 0 := by simpa using hcs
        subst this
        exact ⟨.mk k t [], _, rfl, hts, .nil none 0⟩
      · have : c2 = .slice (some a) len cap := by simpa using hcs
        subst this
        by_cases hz : len = 0
        · subst hz
          exact ⟨.mk k t [], _, rfl, hts, .nil _ _⟩
        · have key : ∀ i, i < len → ∃ (q : Nd × Value), w.cell? (a.add (i * 3)) = some (.int .i64 q.1.kind) ∧ w.cell? (a.add (i * 3 + 1)) = some (.string q.1.text) ∧ w.cell? (a.add (i * 3 + 2)) = some q.2 ∧ q.1.text.size ≤ maxLen ∧ RdK w q.1.kids q.2 := by
            intro i hi
            have hE := hel i hi
            rw [List.getElem?_eq_getElem (by omega), cN] at hE
            obtain ⟨cs', hc', ht'⟩ := Option.bind_eq_some_iff.1 hE
            obtain ⟨n, v, rfl, hns, hr⟩ := ih n' (by omega) _ _ ht'
            obtain ⟨_, _, hcell⟩ := World.cells?_some hc'
            refine ⟨(n, v), ?_, ?_, ?_, hns, hr⟩
            · simpa [add_add] using hcell 0 (by omega)
            · simpa [add_add] using hcell 1 (by omega)
            · simpa [add_add] using hcell 2 (by omega)
          have : Inhabited Nd := ⟨.mk 0 ⟨#[]⟩ []⟩
          have : Inhabited Value := ⟨.bool true⟩
          obtain ⟨f, hf⟩ := choose_lt (α := Nd × Value) key
          have hspot : a.spot = none := by simpa [Addr.add] using World.cell?_spot (hf 0 (by omega)).1
          obtain ⟨b, o, sp⟩ := a
          have hspot' : sp = none := hspot
          subst hspot'
          refine ⟨.mk k t ((List.range len).map fun i => (f i).1), .slice (some ⟨b, o, none⟩) len cap, rfl, hts, ?_⟩
          have hr := RdB.row (W := w) (B := 0) b o cap ((List.range len).map fun i => (f i).1) (fun i => (f i).2) (Nat.zero_le _) (by simp; omega) (by simp; omega) ?_ ?_
          · have hr2 : RdK w ((List.range len).map fun i => (f i).1) (.slice (some ⟨b, o, none⟩) len cap) := by simpa using hr
            exact hr2
          · intro i x hx
            simp only [List.getElem?_map, Option.map_eq_some_iff] at hx
            obtain ⟨i', hi', rfl⟩ := hx
            have hil : i < len := by simpa using (List.getElem?_eq_some_iff.1 hi').1
            have hii : i' = i := by simpa [List.getElem?_range hil] using hi'.symm
            subst hii
            obtain ⟨p1, p2, p3, p4, _⟩ := hf i' hil
            rw [Addr.add_lit] at p1 p2 p3
            exact ⟨p1, by rw [Nat.add_assoc]; exact p2, by rw [Nat.add_assoc]; exact p3, p4⟩
          · intro i x hx
            simp only [List.getElem?_map, Option.map_eq_some_iff] at hx
            obtain ⟨i', hi', rfl⟩ := hx
            have hil : i < len := by simpa using (List.getElem?_eq_some_iff.1 hi').1
            have hii : i' = i := by simpa [List.getElem?_range hil] using hi'.symm
            subst hii
            exact (hf i' hil).2.2.2.2
end
end Go.Proofs.YtlcpmbdckmdabaaGreatDoor
namespace Go.Proofs.YtlcpmbdckmdabaaGreatDoor
open Go.RowKit Nt
set_option linter.unusedVariables false
def ndV (n : Nd) (v : Value) : Value := .agg #[.int .i64 n.kind, .string n.text, v]
def sm (l : List Nd) : Nat := (l.map sz).sum
theorem szL_sm (ks : List Nd) : szL ks = ks.length + sm ks := by
  induction ks with
  | nil => rw [szL]; rfl
  | cons x xs ih => rw [szL, ih, List.length_cons]; simp [sm]; omega
theorem sm_take {ks : List Nd} {i : Nat} {x : Nd} (h : ks[i]? = some x) : sm (ks.take (i + 1)) = sm (ks.take i) + sz x := by
  obtain ⟨hi, rfl⟩ := List.getElem?_eq_some_iff.1 h
  rw [List.take_succ_eq_append_getElem hi]
  unfold sm
  rw [List.map_append, List.sum_append]
  simp only [List.map_cons, List.map_nil, List.sum_cons, List.sum_nil, Nat.add_zero]
theorem sm_le {ks : List Nd} (i : Nat) : sm (ks.take i) ≤ sm ks := by
  have : sm ks = sm (ks.take i) + sm (ks.drop i) := by
    unfold sm
    rw [← List.sum_append, ← List.map_append, List.take_append_drop]
  omega
theorem sz_mk (n : Nd) : sz n = n.text.size + szL n.kids := by cases n; rw [sz]; rfl
def szR (s left : Nat) : Int := if s ≤ left then ((left - s : Nat) : Int) else -1
theorem szR_lt {s left : Nat} (h : left < s) : szR s left = -1 := if_neg (by omega)
theorem szR_le {s left : Nat} (h : s ≤ left) : szR s left = ((left - s : Nat) : Int) := if_pos h
/-- What szNode answers of a node. -/
def SzC (n : Nd) : Prop := ∀ (v : Value) (w : World) (left : Nat), left ≤ 1048576 → n.text.size ≤ maxLen → RdK w n.kids v →
  Calls Tryz.prog 4 #[ndV n v, .int .i64 left] w fun e w' => e = .returned (.int .i64 (szR (sz n) left)) ∧ Below w.heap.size w w'
set_option maxRecDepth 100000 in
set_option maxHeartbeats 400000 in
theorem szS_of (ks : List Nd) (hP : ∀ x ∈ ks, SzC x) (v : Value) (w : World) (left : Nat) (hl : left ≤ 1048576) (hr : RdK w ks v) :
    Calls Tryz.prog 9 #[v, .int .i64 left] w fun e w' => e = .returned (.int .i64 (szR (szL ks) left)) ∧ Below w.heap.size w w' := by
  have hsm := szL_sm ks
  have HP := hide hP
  have HR := hide hr
  clear hP
  rcases RdK_cases hr with ⟨rfl, a, c, rfl⟩ | ⟨b, o, c, vs, rfl, hn, hcs⟩
  · have e0 : szR (szL []) left = (left : Int) := by rw [szL, szR_le (Nat.zero_le _)]; simp
    rw [e0]
    clear hsm hr HR HP e0
    go_enter Tryz.func9, Tryz.ntmps9
    go_wp2
    go_loop [1, 5] (fun l i => l = .int .i64 left ∧ i = .int .i64 0) (fun _ _ => 0)
    case atStart => exact ⟨rfl, rfl⟩
    case round =>
      obtain ⟨rfl, rfl⟩ := hrel
      go_wp2
      exact bodyPost_ret (v := .int .i64 (left : Nat)) (by simp [results, Tryz.results9, go_sem]) rfl ⟨rfl, brf _⟩
  · unfold maxLen at hn
    by_cases hbig : left < ks.length
    · rw [szR_lt (by omega)]
      have q : (left : Int) - (ks.length : Int) < 0 := by omega
      go_enter Tryz.func9, Tryz.ntmps9
      go_wp2
      exact bodyPost_ret (v := .int .i64 (-1)) (by simp [results, Tryz.results9, go_sem]) rfl ⟨rfl, brf _⟩
    · have HC := hide hcs
      clear hcs hr HR
      go_enter Tryz.func9, Tryz.ntmps9
      go_wp2
      go_loopw [1, 5] (fun l i wr => ∃ (j m : Nat), j ≤ ks.length ∧ i = .int .i64 j ∧ l = .int .i64 m ∧ m + ks.length + sm (ks.take j) = left ∧ Below w.heap.size w wr) (fun l i wr => ks.length - (intOf i).toNat)
      case atStart => exact ⟨0, left - ks.length, Nat.zero_le _, rfl, by congr 1; omega, by simp [sm]; omega, brf _⟩
      case round =>
        obtain ⟨j, m, hj, rfl, rfl, hm, hb⟩ := hrel
        by_cases hjn : j < ks.length
        · have hx : ks[j]? = some ks[j] := List.getElem?_eq_getElem hjn
          generalize ks[j] = x at hx
          obtain ⟨k1, k2, k3, hts, hk⟩ := unhide HC j x hx
          have k1' := cell_later hb k1
          have k2' := cell_later hb k2
          have k3' := cell_later hb k3
          have PX := hide (unhide HP x (List.mem_of_getElem? hx) (vs j) wr m (by omega) hts (RdK_later hb hk))
          unfold ndV at PX
          have st := sm_take hx
          have sl := sm_le (ks := ks) (j + 1)
          have HB := hide hb
          clear hb k1 k2 k3 hk
          by_cases hfit : sz x ≤ m
          · rw [szR_le hfit] at PX
            have q1 : ¬ (((m - sz x : Nat) : Int) < 0) := by omega
            generalize x.kind = xk at *
            generalize x.text = xt at *
            generalize vs j = xv at *
            generalize hd : m - sz x = d at *
            go_wp2_with (go_at_call 4; refine (unhide PX).mono ?_; rintro e v1 ⟨rfl, hb1⟩)
            exact ⟨⟨j + 1, d, by omega, by go_num, rfl, by omega, below_step (unhide HB) hb1⟩, by simp [intOf]; omega⟩
          · rw [szR_lt (by omega)] at PX
            have HF : Hid (szR (szL ks) left = -1) := hide (szR_lt (by omega))
            generalize x.kind = xk at *
            generalize x.text = xt at *
            generalize vs j = xv at *
            go_wp2_with (go_at_call 4; refine (unhide PX).mono ?_; rintro e v1 ⟨rfl, hb1⟩)
            exact bodyPost_ret (v := .int .i64 (-1)) (by simp [results, Tryz.results9, go_sem]) rfl ⟨by rw [unhide HF], below_step (unhide HB) hb1⟩
        · obtain rfl : j = ks.length := by omega
          rw [List.take_length] at hm
          have HF : Hid (szR (szL ks) left = (m : Int)) := hide (by rw [szR_le (by omega)]; omega)
          have HB := hide hb
          clear hb
          go_wp2
          exact bodyPost_ret (v := .int .i64 (m : Nat)) (by simp [results, Tryz.results9, go_sem]) rfl ⟨by rw [unhide HF], unhide HB⟩
set_option maxRecDepth 100000 in
theorem szN : ∀ n, SzC n := by
  refine Nd.ind fun n ih => ?_
  intro v w left hl ht hr
  have hsz := sz_mk n
  have SS := hide (fun l hl w' hr' => szS_of n.kids ih v w' l hl hr')
  have HR := hide hr
  obtain ⟨a, c, rfl⟩ := RdK_slice hr
  unfold maxLen at ht
  unfold ndV
  clear hr
  by_cases h1 : left < n.text.size
  · rw [szR_lt (by omega)]
    have q1 : (left : Int) - (n.text.size : Int) < 0 := by omega
    generalize n.kind = xk at *
    generalize n.text = xt at *
    go_enter Tryz.func4, Tryz.ntmps4
    go_wp2
    exact bodyPost_ret (v := .int .i64 (-1)) (by simp [results, Tryz.results4, go_sem]) rfl ⟨rfl, by repeat first | exact brf _ | refine bdr ?_ | refine bal ?_ _⟩
  · have q1 : ¬ ((left : Int) - (n.text.size : Int) < 0) := by omega
    have e1 : (left : Int) - (n.text.size : Int) = ((left - n.text.size : Nat) : Int) := by omega
    have SX := hide (unhide SS (left - n.text.size) (by omega))
    clear SS ih
    by_cases h2 : szL n.kids ≤ left - n.text.size
    · have HF : Hid (szR (sz n) left = ((left - n.text.size - szL n.kids : Nat) : Int)) := hide (by rw [szR_le (by omega)]; omega)
      rw [szR_le h2] at SX
      have q2 : ¬ (((left - n.text.size - szL n.kids : Nat) : Int) < 0) := by omega
      generalize n.kind = xk at *
      generalize n.text = xt at *
      generalize left - xt.size - szL n.kids = d at *
      go_enter Tryz.func4, Tryz.ntmps4
      go_wp2_with (go_at_call 9; refine (unhide SX _ (RdK_later (bal (brf w) _) (unhide HR))).mono ?_; rintro e v1 ⟨rfl, hb1⟩)
      exact bodyPost_ret (v := .int .i64 (d : Nat)) (by simp [results, Tryz.results4, go_sem]) rfl ⟨by rw [unhide HF], btr (bal (brf w) _) hb1⟩
    · have HF : Hid (szR (sz n) left = -1) := hide (szR_lt (by omega))
      rw [szR_lt (by omega)] at SX
      generalize n.kind = xk at *
      generalize n.text = xt at *
      go_enter Tryz.func4, Tryz.ntmps4
      go_wp2_with (go_at_call 9; refine (unhide SX _ (RdK_later (bal (brf w) _) (unhide HR))).mono ?_; rintro e v1 ⟨rfl, hb1⟩)
      exact bodyPost_ret (v := .int .i64 (-1)) (by simp [results, Tryz.results4, go_sem]) rfl ⟨by rw [unhide HF], btr (bal (brf w) _) hb1⟩
end Go.Proofs.YtlcpmbdckmdabaaGreatDoor
namespace Go.Proofs.YtlcpmbdckmdabaaGreatDoor
open Go.RowKit Nt
set_option linter.unusedVariables false
set_option maxRecDepth 100000
/-- A row of n nodes may be written. -/
def TP (W : World) (g n : Nat) : Prop := ∀ i, i < n → (∃ x, W.cell? ⟨g, i * 3, none⟩ = some x) ∧ (∃ x, W.cell? ⟨g, i * 3 + 1, none⟩ = some x) ∧ (∃ x, W.cell? ⟨g, i * 3 + 2, none⟩ = some x) ∧ W.frozen? ⟨g, i * 3, none⟩ = false ∧ W.frozen? ⟨g, i * 3 + 1, none⟩ = false ∧ W.frozen? ⟨g, i * 3 + 2, none⟩ = false
/-- The first of them hold the nodes of a list. -/
def NR (W : World) (B g n : Nat) (ks : List Nd) (vs : Nat → Value) : Prop := ∀ i x, i < n → ks[i]? = some x → W.cell? ⟨g, i * 3, none⟩ = some (.int .i64 x.kind) ∧ W.cell? ⟨g, i * 3 + 1, none⟩ = some (.string x.text) ∧ W.cell? ⟨g, i * 3 + 2, none⟩ = some (vs i) ∧ RdB W B x.kids (vs i)
theorem ne_off {g o o' : Nat} (h : o ≠ o') : (⟨g, o, none⟩ : Addr) ≠ ⟨g, o', none⟩ := fun e => h (by injection e)
theorem set_same {w : World} {a : Addr} {v u : Value} (h : w.cell? a = some u) : (w.setCell a v).cell? a = some v := World.cell?_setCell_same (w := w) (a := a) (v := v) h
theorem set_other {w : World} {a b : Addr} {v : Value} (h : a ≠ b) : (w.setCell a v).cell? b = w.cell? b := World.cell?_setCell_other (w := w) (a := a) (b := b) (v := v) h
theorem set_frozen {w : World} {a b : Addr} {v : Value} : (w.setCell a v).frozen? b = w.frozen? b := by simp
theorem set_some {w : World} {g o o' : Nat} {v : Value} (h : ∃ x, w.cell? ⟨g, o', none⟩ = some x) : ∃ x, (w.setCell ⟨g, o, none⟩ v).cell? ⟨g, o', none⟩ = some x := by
  obtain ⟨x, hx⟩ := h
  by_cases e : o = o'
  · subst e; exact ⟨v, set_same hx⟩
  · exact ⟨x, by rw [set_other (ne_off e)]; exact hx⟩
theorem TP_set {w : World} {g n o : Nat} {v : Value} (h : TP w g n) : TP (w.setCell ⟨g, o, none⟩ v) g n := fun i hi => by
  obtain ⟨a, b, c, d, e, f⟩ := h i hi
  exact ⟨set_some a, set_some b, set_some c, by rw [set_frozen]; exact d, by rw [set_frozen]; exact e, by rw [set_frozen]; exact f⟩
theorem TP_later {w v : World} {g n : Nat} (h : TP w g n) (hb : Below w.heap.size w v) : TP v g n := fun i hi => by
  obtain ⟨⟨x, a⟩, ⟨y, b⟩, ⟨z, c⟩, d, e, f⟩ := h i hi
  exact ⟨⟨x, cell_later hb a⟩, ⟨y, cell_later hb b⟩, ⟨z, cell_later hb c⟩, frozen_later hb a d, frozen_later hb b e, frozen_later hb c f⟩
theorem RdB_set {w : World} {B g o : Nat} {v u : Value} {ks : List Nd} (h : RdB w B ks v) (hg : g < B) : RdB (w.setCell ⟨g, o, none⟩ u) B ks v :=
  RdB_keep (fun b o' x hb hx => by rw [set_other (fun e => by injection e; omega)]; exact hx) h
theorem NR_set {w : World} {B g n o : Nat} {v : Value} {ks : List Nd} {vs : Nat → Value} (h : NR w B g n ks vs) (hg : g < B) (ho : n * 3 ≤ o) : NR (w.setCell ⟨g, o, none⟩ v) B g n ks vs := fun i x hi hx => by
  obtain ⟨a, b, c, d⟩ := h i x hi hx
  exact ⟨by rw [set_other (ne_off (by omega))]; exact a, by rw [set_other (ne_off (by omega))]; exact b, by rw [set_other (ne_off (by omega))]; exact c, RdB_set d hg⟩
theorem NR_later {w v : World} {B g n : Nat} {ks : List Nd} {vs : Nat → Value} (h : NR w B g n ks vs) (hb : Below w.heap.size w v) : NR v B g n ks vs := fun i x hi hx => by
  obtain ⟨a, b, c, d⟩ := h i x hi hx
  exact ⟨cell_later hb a, cell_later hb b, cell_later hb c, RdB_later hb d⟩
theorem TP_made (w : World) (M : Array Value) (n : Nat) (h : M.size = n * 3) : TP (w.alloc (.cells M 29)) w.heap.size n := fun i hi => by
  refine ⟨⟨M[i * 3]'(by omega), ?_⟩, ⟨M[i * 3 + 1]'(by omega), ?_⟩, ⟨M[i * 3 + 2]'(by omega), ?_⟩, ?_, ?_, ?_⟩
  · rw [World.cell?_alloc_new]; exact Array.getElem?_eq_getElem (by omega)
  · rw [World.cell?_alloc_new]; exact Array.getElem?_eq_getElem (by omega)
  · rw [World.cell?_alloc_new]; exact Array.getElem?_eq_getElem (by omega)
  · simp
  · simp
  · simp
theorem info29 : (Tryz.prog.info? 29).map (fun i => (i.zero, i.size, i.bytes)) = some (some (.agg #[.int .i64 0, .string ByteArray.empty, .slice none 0 0]), 3, 48) := by kernel_rfl
theorem make29 (n : Nat) (hn : n ≤ 1048576) : ∃ M : Array Value, M.size = n * 3 ∧ ∀ W : World, (Instr.makeSlice 27 (.int .i64 (n : Int)) (.int .i64 (n : Int))).run Tryz.prog W = .ok (.slice (some ⟨W.heap.size, 0, none⟩) n n) (W.alloc (.cells M 29)) := by
  obtain ⟨i29, hi, hz0, hz1, hz2⟩ := info_parts info29
  refine ⟨_, size_madeCells #[.int .i64 0, .string ByteArray.empty, .slice none 0 0] (n * 3), fun W => ?_⟩
  have hr := run_make (P := Tryz.prog) W 27 29 i29 _ (by kernel_rfl) hi hz0 .i64 .i64 n n (by omega) (Int.le_refl _) (by rw [hz2]; omega) (by omega)
  rw [hr, hz1]
  simp
  rfl
/-- What toNode answers of a node. -/
def ToC (n : Nd) : Prop := ∀ (v : Value) (w : World), sz n ≤ 1048576 → RdK w n.kids v →
  Calls Tryz.prog 6 #[ndV n v] w fun e w' => (∃ v', e = .returned (ndV n v') ∧ RdB w' w.heap.size n.kids v') ∧ Below w.heap.size w w'
set_option maxHeartbeats 400000 in
theorem toS_of (ks : List Nd) (hP : ∀ x ∈ ks, ToC x) (v : Value) (w : World) (hl : szL ks ≤ 1048576) (hr : RdK w ks v) :
    Calls Tryz.prog 12 #[v] w fun e w' => (∃ v', e = .returned v' ∧ RdB w' w.heap.size ks v') ∧ Below w.heap.size w w' := by
  have hsm := szL_sm ks
  obtain ⟨M, hM, hmk⟩ := make29 ks.length (by omega)
  have HP := hide hP
  clear hP
  rcases RdK_cases hr with ⟨rfl, a, c, rfl⟩ | ⟨b, o, c, vs, rfl, hn, hcs⟩
  · have hmk0 : ∀ W : World, (Instr.makeSlice 27 (.int .i64 0) (.int .i64 0)).run Tryz.prog W = .ok (.slice (some ⟨W.heap.size, 0, none⟩) 0 0) (W.alloc (.cells M 29)) := hmk
    clear hsm hr HP hmk
    go_enter Tryz.func12, Tryz.ntmps12
    go_wp2
    go_loopw [4] (fun i W => i = .int .i64 0 ∧ Below w.heap.size w W) (fun _ _ => 0)
    case atStart => exact ⟨rfl, bal (brf w) _⟩
    case round =>
      obtain ⟨rfl, hb⟩ := hrel
      have HB := hide hb
      clear hb
      go_wp2
      exact bodyPost_ret (v := .slice (some ⟨w.heap.size, 0, none⟩) 0 0) (by simp [results, Tryz.results12, go_sem]) rfl ⟨⟨_, rfl, .nil _ _⟩, unhide HB⟩
  · unfold maxLen at hn
    have HC := hide hcs
    have HTP := hide (TP_made w M ks.length hM)
    clear hcs hr hM
    go_enter Tryz.func12, Tryz.ntmps12
    go_wp2
    clear hmk
    go_loopw [4] (fun i W => ∃ (j : Nat) (us : Nat → Value), j ≤ ks.length ∧ i = .int .i64 j ∧ TP W w.heap.size ks.length ∧ NR W (w.heap.size + 1) w.heap.size j ks us ∧ Below w.heap.size w W ∧ w.heap.size + 1 ≤ W.heap.size) (fun i W => ks.length - (intOf i).toNat)
    case atStart => exact ⟨0, fun _ => .bool true, Nat.zero_le _, rfl, unhide HTP, fun i x hi => absurd hi (Nat.not_lt_zero _), bal (brf w) _, by simp⟩
    case round =>
      clear HTP
      obtain ⟨j, us, hj, rfl, hTP, hNR, hb, hsz⟩ := hrel
      have HTP := hide hTP
      have HNR := hide hNR
      by_cases hjn : j < ks.length
      · have hx : ks[j]? = some ks[j] := List.getElem?_eq_getElem hjn
        generalize ks[j] = x at hx
        obtain ⟨k1, k2, k3, hts, hk⟩ := unhide HC j x hx
        have k1' := cell_later hb k1
        have k2' := cell_later hb k2
        have k3' := cell_later hb k3
        have st := sm_take hx
        have sl := sm_le (ks := ks) (j + 1)
        have PX := hide (unhide HP x (List.mem_of_getElem? hx) (vs j) wr (by omega) (RdK_later hb hk))
        unfold ndV at PX
        obtain ⟨⟨y1, c1⟩, ⟨y2, c2⟩, ⟨y3, c3⟩, f1, f2, f3⟩ := hTP j hjn
        have HB := hide hb
        have HX := hide hx
        clear hb k1 k2 k3 hk hTP hNR hx
        go_wp2_with (go_at_call 6; refine (unhide PX).mono ?_; rintro e v1 ⟨⟨v', rfl, hrd⟩, hb1⟩; obtain ⟨a', c', rfl⟩ := RdB_slice hrd; have d1 := cell_later hb1 c1; have d2 := cell_later hb1 c2; have d3 := cell_later hb1 c3; have g1 := frozen_later hb1 c1 f1; have g2 := frozen_later hb1 c2 f2; have g3 := frozen_later hb1 c3 f3)
        have hgs : w.heap.size < wr.heap.size := by omega
        have hB1 : Below w.heap.size w v1 := below_step (unhide HB) hb1
        have hP1 := TP_set (o := j * 3 + 2) (v := .slice a' x.kids.length c') (TP_set (o := j * 3 + 1) (v := .string x.text) (TP_set (o := j * 3) (v := .int .i64 x.kind) (TP_later (unhide HTP) hb1)))
        have hN1 := NR_set (o := j * 3 + 2) (v := .slice a' x.kids.length c') (NR_set (o := j * 3 + 1) (v := .string x.text) (NR_set (o := j * 3) (v := .int .i64 x.kind) (NR_later (unhide HNR) hb1) (by omega) (by omega)) (by omega) (by omega)) (by omega) (by omega)
        refine ⟨⟨j + 1, fun i => if i = j then .slice a' x.kids.length c' else us i, by omega, by go_num, hP1, ?_, ((hB1.setCell (p := ⟨w.heap.size, j * 3, none⟩) (Nat.le_refl _) _).setCell (p := ⟨w.heap.size, j * 3 + 1, none⟩) (Nat.le_refl _) _).setCell (p := ⟨w.heap.size, j * 3 + 2, none⟩) (Nat.le_refl _) _, by have := hb1.size; simp; omega⟩, by simp [intOf]; omega⟩
        intro i y hi hy
        by_cases e : i = j
        · subst e
          obtain rfl : y = x := Option.some.inj (hy.symm.trans (unhide HX))
          refine ⟨?_, ?_, ?_, ?_⟩
          · rw [set_other (ne_off (by omega)), set_other (ne_off (by omega)), set_same d1]
          · rw [set_other (ne_off (by omega)), set_same (u := y2) (by rw [set_other (ne_off (by omega))]; exact d2)]
          · rw [set_same (u := y3) (by rw [set_other (ne_off (by omega)), set_other (ne_off (by omega))]; exact d3)]; simp
          · simp only [if_true]
            exact RdB_set (RdB_set (RdB_set (RdB_mono (by omega) hrd) (by omega)) (by omega)) (by omega)
        · have := hN1 i y (by omega) hy
          simpa only [if_neg e] using this
      · obtain rfl : j = ks.length := by omega
        have HB := hide hb
        clear hb hTP hNR
        go_wp2
        refine bodyPost_ret (v := .slice (some ⟨w.heap.size, 0, none⟩) ks.length ks.length) (by simp [results, Tryz.results12, go_sem]) rfl ⟨⟨_, rfl, ?_⟩, unhide HB⟩
        refine RdB.row _ 0 _ ks us (Nat.le_refl _) hn (Nat.le_refl _) (fun i x hx => ?_) (fun i x hx => ?_)
        · obtain ⟨a, b, c, d⟩ := unhide HNR i x (List.getElem?_eq_some_iff.1 hx).1 hx
          rw [Nat.zero_add]
          exact ⟨a, b, c, (unhide HC i x hx).2.2.2.1⟩
        · exact RdB_mono (Nat.le_succ _) (unhide HNR i x (List.getElem?_eq_some_iff.1 hx).1 hx).2.2.2
theorem toN : ∀ n, ToC n := by
  refine Nd.ind fun n ih => ?_
  intro v w hl hr
  have hsz := sz_mk n
  have SS := hide (fun w' hr' => toS_of n.kids ih v w' (by omega) hr')
  have HR := hide hr
  obtain ⟨a, c, rfl⟩ := RdK_slice hr
  unfold ndV
  clear hr
  generalize n.kind = xk at *
  generalize n.text = xt at *
  go_enter Tryz.func6, Tryz.ntmps6
  go_wp2_with (go_at_call 12; refine (unhide SS _ (RdK_later (by repeat first | exact brf _ | refine bal ?_ _) (unhide HR))).mono ?_; rintro e v1 ⟨⟨v', rfl, hrd⟩, hb1⟩; obtain ⟨a', c', rfl⟩ := RdB_slice hrd; obtain ⟨hc1, hf1⟩ := bcell hb1)
  have hrd' : RdB v1 (w.heap.size + 3) n.kids (.slice a' n.kids.length c') := RdB_mono (by simp) hrd
  have hbv : Below w.heap.size w v1 := btr (bal (bal (bal (brf w) _) _) _) hb1
  refine bodyPost_ret (v := .agg #[.int .i64 xk, .string xt, .slice a' n.kids.length c']) (by simp [results, Tryz.results6, go_sem, hc1]) rfl ⟨⟨_, rfl, ?_⟩, ?_⟩
  · exact RdB_mono (by omega) (RdB_set (RdB_set (RdB_set (RdB_set hrd' (by omega)) (by omega)) (by omega)) (by omega))
  · exact bst (bst (bst (bst hbv (by simp; omega) _) (by simp) _) (by simp) _) (by simp) _
end Go.Proofs.YtlcpmbdckmdabaaGreatDoor
namespace Go.Proofs.YtlcpmbdckmdabaaGreatDoor
open Go.RowKit Nt
set_option linter.unusedVariables false
set_option maxRecDepth 100000
theorem keep6 {W V v1 : World} {a b c d e f : Addr} {x y z x' y' z' : Value} (h : V.cell? a = some x ∧ V.cell? b = some y ∧ V.cell? c = some z ∧ V.cell? d = some x' ∧ V.cell? e = some y' ∧ V.cell? f = some z' ∧ Below W.heap.size W V) (hb : Below V.heap.size V v1) :
    v1.cell? a = some x ∧ v1.cell? b = some y ∧ v1.cell? c = some z ∧ v1.cell? d = some x' ∧ v1.cell? e = some y' ∧ v1.cell? f = some z' ∧ Below W.heap.size W v1 :=
  ⟨cell_later hb h.1, cell_later hb h.2.1, cell_later hb h.2.2.1, cell_later hb h.2.2.2.1, cell_later hb h.2.2.2.2.1, cell_later hb h.2.2.2.2.2.1, below_step h.2.2.2.2.2.2 hb⟩
theorem below6 {W V : World} {a b c d e f : Addr} {x y z x' y' z' : Value} (h : V.cell? a = some x ∧ V.cell? b = some y ∧ V.cell? c = some z ∧ V.cell? d = some x' ∧ V.cell? e = some y' ∧ V.cell? f = some z' ∧ Below W.heap.size W V) : Below W.heap.size W V := h.2.2.2.2.2.2
/-- What eqNode answers. -/
def EqC (n : Nd) : Prop := ∀ (v1 v2 : Value) (w : World), RdK w n.kids v1 → RdK w n.kids v2 →
  Calls Tryz.prog 8 #[ndV n v1, ndV n v2] w fun e w' => e = .returned (.bool true) ∧ Below w.heap.size w w'
theorem eqS0 (a1 a2 : Option Addr) (c1 c2 : Nat) (w : World) : Calls Tryz.prog 16 #[.slice a1 0 c1, .slice a2 0 c2] w fun e w' => e = .returned (.bool true) ∧ Below w.heap.size w w' := by
  go_enter Tryz.func16, Tryz.ntmps16
  go_wp2
  go_loopw [5] (fun i wr => i = .int .i64 0 ∧ Below w.heap.size w wr) (fun i wr => 0)
  case atStart => exact ⟨rfl, brf _⟩
  case round =>
    obtain ⟨rfl, hb⟩ := hrel
    have HB := hide hb
    clear hb
    go_wp2
    exact bodyPost_ret (v := .bool true) (by simp [results, Tryz.results16, go_sem]) rfl ⟨rfl, unhide HB⟩
set_option maxHeartbeats 400000 in
theorem eqS_of (ks : List Nd) (hP : ∀ x ∈ ks, EqC x) (v1 v2 : Value) (w : World) (h1 : RdK w ks v1) (h2 : RdK w ks v2) :
    Calls Tryz.prog 16 #[v1, v2] w fun e w' => e = .returned (.bool true) ∧ Below w.heap.size w w' := by
  have HP := hide hP
  clear hP
  rcases RdK_cases h1 with ⟨rfl, a1, c1, rfl⟩ | ⟨b1, o1, c1, vs1, rfl, hn, hc1⟩
  · obtain ⟨a2, c2, rfl⟩ := RdK_slice h2
    exact eqS0 _ _ _ _ w
  · rcases RdK_cases h2 with ⟨rfl, a2, c2, rfl⟩ | ⟨b2, o2, c2, vs2, rfl, _, hc2⟩
    · exact eqS0 _ _ _ _ w
    · unfold maxLen at hn
      have HC1 := hide hc1
      have HC2 := hide hc2
      clear hc1 hc2 h1 h2
      go_enter Tryz.func16, Tryz.ntmps16
      go_wp2
      go_loopw [5] (fun i wr => ∃ j : Nat, j ≤ ks.length ∧ i = .int .i64 j ∧ Below w.heap.size w wr) (fun i wr => ks.length - (intOf i).toNat)
      case atStart => exact ⟨0, Nat.zero_le _, rfl, brf _⟩
      case round =>
        obtain ⟨j, hj, rfl, hb⟩ := hrel
        by_cases hjn : j < ks.length
        · have hx : ks[j]? = some ks[j] := List.getElem?_eq_getElem hjn
          generalize ks[j] = x at hx
          obtain ⟨k1, k2, k3, _, hk⟩ := unhide HC1 j x hx
          obtain ⟨m1, m2, m3, _, hm⟩ := unhide HC2 j x hx
          have k1' := cell_later hb k1
          have k2' := cell_later hb k2
          have k3' := cell_later hb k3
          have m1' := cell_later hb m1
          have m2' := cell_later hb m2
          have m3' := cell_later hb m3
          have PX := hide (fun (wy : World) (hy : Below wr.heap.size wr wy) => unhide HP x (List.mem_of_getElem? hx) (vs1 j) (vs2 j) wy (RdK_later hy (RdK_later hb hk)) (RdK_later hy (RdK_later hb hm)))
          unfold ndV at PX
          have HB := hide hb
          clear hb k1 k2 k3 hk m1 m2 m3 hm
          generalize x.kind = xk at *
          generalize x.text = xt at *
          generalize vs1 j = u at *
          generalize vs2 j = u' at *
          go_wp2
          go_region_held3 (fun w' => w'.cell? ⟨b1, o1 + j * 3, none⟩ = some (.int .i64 xk) ∧ w'.cell? ⟨b1, o1 + j * 3 + 1, none⟩ = some (.string xt) ∧ w'.cell? ⟨b1, o1 + j * 3 + 2, none⟩ = some u ∧ w'.cell? ⟨b2, o2 + j * 3, none⟩ = some (.int .i64 xk) ∧ w'.cell? ⟨b2, o2 + j * 3 + 1, none⟩ = some (.string xt) ∧ w'.cell? ⟨b2, o2 + j * 3 + 2, none⟩ = some u' ∧ Below wr.heap.size wr w')
            (first | (exact ⟨k1', k2', k3', m1', m2', m3', bdr (brf _)⟩) | (exact keep6 (by assumption) hb1))
            (first | (go_at_call 8; refine (unhide PX _ (below6 (by assumption))).mono ?_; rintro e v1 ⟨rfl, hb1⟩))
          all_goals
            have hSf : v1.cell? ⟨b1, o1 + j * 3, none⟩ = some (.int .i64 xk) ∧ v1.cell? ⟨b1, o1 + j * 3 + 1, none⟩ = some (.string xt) ∧ v1.cell? ⟨b1, o1 + j * 3 + 2, none⟩ = some u ∧ v1.cell? ⟨b2, o2 + j * 3, none⟩ = some (.int .i64 xk) ∧ v1.cell? ⟨b2, o2 + j * 3 + 1, none⟩ = some (.string xt) ∧ v1.cell? ⟨b2, o2 + j * 3 + 2, none⟩ = some u' ∧ Below wr.heap.size wr v1 := by assumption
            have HB2 := hide (below_step (unhide HB) (below6 hSf))
            clear hSf k1' k2' k3' m1' m2' m3'
            go_wp2
            exact ⟨⟨j + 1, by omega, by go_num, unhide HB2⟩, by simp [intOf]; omega⟩
        · obtain rfl : j = ks.length := by omega
          have HB := hide hb
          clear hb
          go_wp2
          exact bodyPost_ret (v := .bool true) (by simp [results, Tryz.results16, go_sem]) rfl ⟨rfl, unhide HB⟩
theorem eqN : ∀ n, EqC n := by
  refine Nd.ind fun n ih => ?_
  intro v1 v2 w h1 h2
  have SS := hide (fun w' h1' h2' => eqS_of n.kids ih v1 v2 w' h1' h2')
  have HR1 := hide h1
  have HR2 := hide h2
  obtain ⟨a1, c1, rfl⟩ := RdK_slice h1
  obtain ⟨a2, c2, rfl⟩ := RdK_slice h2
  unfold ndV
  clear h1 h2
  generalize n.kind = xk at *
  generalize n.text = xt at *
  go_enter Tryz.func8, Tryz.ntmps8
  go_wp2_with (go_at_call 16; refine (unhide SS _ (RdK_later (bal (bal (brf w) _) _) (unhide HR1)) (RdK_later (bal (bal (brf w) _) _) (unhide HR2))).mono ?_; rintro e v1 ⟨rfl, hb1⟩)
  go_ret
  exact ⟨rfl, btr (bal (bal (brf w) _) _) hb1⟩
end Go.Proofs.YtlcpmbdckmdabaaGreatDoor
namespace Go.Proofs.YtlcpmbdckmdabaaGreatDoor
open Go.RowKit Nt
set_option linter.unusedVariables false
set_option maxRecDepth 100000
theorem dep_mk (n : Nd) : dep n = depL n.kids + 1 := by cases n; rw [dep]; rfl
theorem cnt_mk (n : Nd) : cnt n = 1 + cntL n.kids := by cases n; rw [cnt]; rfl
theorem depL_le {ks : List Nd} (h : ∀ x ∈ ks, dep x ≤ sz x + 1) : depL ks ≤ szL ks := by
  induction ks with
  | nil => rw [depL]; exact Nat.zero_le _
  | cons x xs ih =>
    rw [depL, szL]
    have h1 := h x (by simp)
    have h2 := ih (fun y hy => h y (by simp [hy]))
    omega
theorem dep_le : ∀ n, dep n ≤ sz n + 1 := by
  refine Nd.ind fun n ih => ?_
  rw [dep_mk, sz_mk]
  have := depL_le ih
  omega
theorem cntL_le {ks : List Nd} (h : ∀ x ∈ ks, cnt x ≤ sz x + 1) : cntL ks ≤ szL ks := by
  induction ks with
  | nil => rw [cntL]; exact Nat.zero_le _
  | cons x xs ih =>
    rw [cntL, szL]
    have h1 := h x (by simp)
    have h2 := ih (fun y hy => h y (by simp [hy]))
    omega
theorem cnt_le : ∀ n, cnt n ≤ sz n + 1 := by
  refine Nd.ind fun n ih => ?_
  rw [cnt_mk, sz_mk]
  have := cntL_le ih
  omega
theorem depL_append (xs ys : List Nd) : depL (xs ++ ys) = max (depL xs) (depL ys) := by
  induction xs with
  | nil => rw [List.nil_append, depL]; omega
  | cons x xs ih => rw [List.cons_append, depL, depL, ih]; omega
theorem cntL_append (xs ys : List Nd) : cntL (xs ++ ys) = cntL xs + cntL ys := by
  induction xs with
  | nil => rw [List.nil_append, cntL]; omega
  | cons x xs ih => rw [List.cons_append, cntL, cntL, ih]; omega
theorem take_next {ks : List Nd} {i : Nat} {x : Nd} (h : ks[i]? = some x) : ks.take (i + 1) = ks.take i ++ [x] := by
  obtain ⟨hi, rfl⟩ := List.getElem?_eq_some_iff.1 h
  exact List.take_succ_eq_append_getElem hi
theorem depL_next {ks : List Nd} {i : Nat} {x : Nd} (h : ks[i]? = some x) : depL (ks.take (i + 1)) = max (depL (ks.take i)) (dep x) := by
  rw [take_next h, depL_append, depL, depL]; omega
theorem cntL_next {ks : List Nd} {i : Nat} {x : Nd} (h : ks[i]? = some x) : cntL (ks.take (i + 1)) = cntL (ks.take i) + cnt x := by
  rw [take_next h, cntL_append, cntL, cntL]; omega
theorem cntL_take (ks : List Nd) (i : Nat) : cntL (ks.take i) ≤ cntL ks := by
  have : cntL ks = cntL (ks.take i) + cntL (ks.drop i) := by rw [← cntL_append, List.take_append_drop]
  omega
/-- What depthOf answers. -/
def DpC (n : Nd) : Prop := ∀ (v : Value) (w : World), sz n ≤ 1048576 → RdK w n.kids v →
  Calls Tryz.prog 14 #[ndV n v] w fun e w' => e = .returned (.int .i64 (dep n)) ∧ Below w.heap.size w w'
set_option maxHeartbeats 400000 in
theorem dpN : ∀ n, DpC n := by
  refine Nd.ind fun n ih => ?_
  intro v w hl hr
  have hsz := sz_mk n
  have hsm := szL_sm n.kids
  have hdm := dep_mk n
  have HP := hide ih
  have HR := hide hr
  clear ih
  unfold ndV
  rcases RdK_cases hr with ⟨h0, a, c, rfl⟩ | ⟨b, o, c, vs, rfl, hn, hcs⟩
  · have hd1 : dep n = 1 := by rw [hdm, h0, depL]
    rw [hd1]
    clear hr HR HP hsz hsm hdm hd1
    generalize n.kind = xk at *
    generalize n.text = xt at *
    go_enter Tryz.func14, Tryz.ntmps14
    go_wp2
    go_loopw [3, 9] (fun m i wr => i = .int .i64 0 ∧ m = .int .i64 0 ∧ Below w.heap.size w wr) (fun m i wr => 0)
    case atStart => exact ⟨rfl, rfl, bal (brf w) _⟩
    case round =>
      obtain ⟨rfl, rfl, hb⟩ := hrel
      have HB := hide hb
      clear hb
      go_wp2
      exact bodyPost_ret (v := .int .i64 1) (by simp [results, Tryz.results14, go_sem]) rfl ⟨rfl, unhide HB⟩
  · have HC := hide hcs
    clear hcs hr
    generalize n.kids = ks at *
    generalize n.kind = xk at *
    generalize n.text = xt at *
    go_enter Tryz.func14, Tryz.ntmps14
    go_wp2
    go_loopw [3, 9] (fun m i wr => ∃ j : Nat, j ≤ ks.length ∧ i = .int .i64 j ∧ m = .int .i64 (depL (ks.take j) : Nat) ∧ Below w.heap.size w wr) (fun m i wr => ks.length - (intOf i).toNat)
    case atStart => exact ⟨0, Nat.zero_le _, rfl, by rw [List.take_zero, depL]; rfl, bal (brf w) _⟩
    case round =>
      obtain ⟨j, hj, rfl, rfl, hb⟩ := hrel
      by_cases hjn : j < ks.length
      · have hx : ks[j]? = some ks[j] := List.getElem?_eq_getElem hjn
        generalize ks[j] = x at hx
        obtain ⟨k1, k2, k3, hts, hk⟩ := unhide HC j x hx
        have k1' := cell_later hb k1
        have k2' := cell_later hb k2
        have k3' := cell_later hb k3
        have st := sm_take hx
        have sl := sm_le (ks := ks) (j + 1)
        have PX := hide (fun (wy : World) (hy : Below wr.heap.size wr wy) => unhide HP x (List.mem_of_getElem? hx) (vs j) wy (by omega) (RdK_later hy (RdK_later hb hk)))
        unfold ndV at PX
        have hdx := dep_le x
        have hnx := depL_next hx
        have hdl : depL (ks.take j) ≤ 1048577 := by
          have h1 := depL_le (ks := ks.take j) (fun y _ => dep_le y)
          have h2 := szL_sm (ks.take j)
          have h3 := sm_le (ks := ks) j
          rw [List.length_take] at h2
          omega
        have HB := hide hb
        have HX := hide hnx
        clear hb k1 k2 k3 hk
        obtain ⟨a', c', hv'⟩ := RdK_slice (unhide HC j x hx).2.2.2.2
        rw [hv'] at k3' PX
        generalize x.kind = yk at *
        generalize x.text = yt at *
        generalize hA : depL (ks.take j) = A at *
        generalize hD : dep x = D at *
        go_wp2_with (go_at_call 14; refine (unhide PX _ (by repeat first | exact brf _ | refine bal ?_ _)).mono ?_; rintro e v1 ⟨rfl, hb1⟩)
        refine ⟨⟨j + 1, by omega, by go_num, ?_, btr (bal (unhide HB) _) hb1⟩, by simp [intOf]; omega⟩
        rw [unhide HX]
        congr 1
        split <;> omega
      · obtain rfl : j = ks.length := by omega
        have HB := hide hb
        clear hb
        have hdl : depL ks ≤ 1048577 := by
          have h1 := depL_le (ks := ks) (fun y _ => dep_le y)
          omega
        rw [List.take_length]
        generalize depL ks = A at *
        go_wp2
        exact bodyPost_ret (v := .int .i64 ((A + 1 : Nat) : Int)) (by simp [results, Tryz.results14, go_sem]) rfl ⟨by rw [hdm], unhide HB⟩
/-- What countNodes answers: the number, or one above the bound. -/
def CtC (n : Nd) : Prop := ∀ (v : Value) (w : World) (most : Nat), sz n ≤ 1048576 → most ≤ 8192 → RdK w n.kids v →
  Calls Tryz.prog 13 #[ndV n v, .int .i64 most] w fun e w' => (∃ r : Nat, e = .returned (.int .i64 r) ∧ (cnt n ≤ most → r = cnt n) ∧ (most < cnt n → most < r ∧ r ≤ cnt n)) ∧ Below w.heap.size w w'
set_option maxHeartbeats 400000 in
theorem ctN : ∀ n, CtC n := by
  refine Nd.ind fun n ih => ?_
  intro v w most hl hmost hr
  have hsz := sz_mk n
  have hsm := szL_sm n.kids
  have hcm := cnt_mk n
  have HP := hide ih
  have HR := hide hr
  clear ih
  unfold ndV
  rcases RdK_cases hr with ⟨h0, a, c, rfl⟩ | ⟨b, o, c, vs, rfl, hn, hcs⟩
  · have hd1 : cnt n = 1 := by rw [hcm, h0, cntL]
    rw [hd1]
    clear hr HR HP hsz hsm hcm hd1
    generalize n.kind = xk at *
    generalize n.text = xt at *
    go_enter Tryz.func13, Tryz.ntmps13
    go_wp2
    go_loopw [5, 11] (fun m i wr => i = .int .i64 0 ∧ m = .int .i64 1 ∧ Below w.heap.size w wr) (fun m i wr => 0)
    case atStart => exact ⟨rfl, rfl, bal (brf w) _⟩
    case round =>
      obtain ⟨rfl, rfl, hb⟩ := hrel
      have HB := hide hb
      clear hb
      go_wp2
      exact bodyPost_ret (v := .int .i64 1) (by simp [results, Tryz.results13, go_sem]) rfl ⟨⟨1, rfl, fun _ => rfl, fun h => ⟨h, Nat.le_refl _⟩⟩, unhide HB⟩
  · have HC := hide hcs
    clear hcs hr
    generalize n.kids = ks at *
    generalize n.kind = xk at *
    generalize n.text = xt at *
    go_enter Tryz.func13, Tryz.ntmps13
    go_wp2
    go_loopw [5, 11] (fun m i wr => ∃ (j r : Nat), j ≤ ks.length ∧ i = .int .i64 j ∧ m = .int .i64 r ∧ (1 + cntL (ks.take j) ≤ most → r = 1 + cntL (ks.take j)) ∧ (most < 1 + cntL (ks.take j) → most < r ∧ r ≤ 1 + cntL (ks.take j)) ∧ Below w.heap.size w wr) (fun m i wr => ks.length - (intOf i).toNat)
    case atStart => exact ⟨0, 1, Nat.zero_le _, rfl, rfl, fun _ => by rw [List.take_zero, cntL], fun h => by rw [List.take_zero, cntL] at h ⊢; exact ⟨h, Nat.le_refl _⟩, bal (brf w) _⟩
    case round =>
      obtain ⟨j, r, hj, rfl, rfl, h1, h2, hb⟩ := hrel
      have HB := hide hb
      have hct := cntL_take ks j
      have hcb : cntL ks ≤ 1048577 := by
        have := cntL_le (ks := ks) (fun y _ => cnt_le y)
        omega
      by_cases hjn : j < ks.length
      · by_cases hrm : most < r
        · have HF : Hid ((cnt n ≤ most → r = cnt n) ∧ (most < cnt n → most < r ∧ r ≤ cnt n)) := hide ⟨fun h => by omega, fun h => by omega⟩
          have hx : ks[j]? = some ks[j] := List.getElem?_eq_getElem hjn
          generalize ks[j] = x at hx
          obtain ⟨k1, k2, k3, hts, hk⟩ := unhide HC j x hx
          have k1' := cell_later hb k1
          have k2' := cell_later hb k2
          have k3' := cell_later hb k3
          obtain ⟨a', c', hv'⟩ := RdK_slice hk
          rw [hv'] at k3'
          clear hb k1 k2 k3 hk h1 h2
          generalize x.kind = yk at *
          generalize x.text = yt at *
          go_wp2
          exact bodyPost_ret (v := .int .i64 (r : Nat)) (by simp [results, Tryz.results13, go_sem]) rfl ⟨⟨r, rfl, unhide HF⟩, bal (unhide HB) _⟩
        · have hrC : r = 1 + cntL (ks.take j) := h1 (by omega)
          have hx : ks[j]? = some ks[j] := List.getElem?_eq_getElem hjn
          generalize ks[j] = x at hx
          obtain ⟨k1, k2, k3, hts, hk⟩ := unhide HC j x hx
          have k1' := cell_later hb k1
          have k2' := cell_later hb k2
          have k3' := cell_later hb k3
          have st := sm_take hx
          have sl := sm_le (ks := ks) (j + 1)
          have PX := hide (fun (wy : World) (hy : Below wr.heap.size wr wy) => unhide HP x (List.mem_of_getElem? hx) (vs j) wy (most - r) (by omega) (by omega) (RdK_later hy (RdK_later hb hk)))
          unfold ndV at PX
          obtain ⟨a', c', hv'⟩ := RdK_slice hk
          rw [hv'] at k3' PX
          have hnx := cntL_next hx
          have hcx := cnt_le x
          have e1 : ((most - r : Nat) : Int) = (most : Int) - (r : Int) := by omega
          rw [e1] at PX
          have HX := hide hnx
          have HRC := hide hrC
          clear hb k1 k2 k3 hk h1 h2 e1 hnx hrC
          generalize x.kind = yk at *
          generalize x.text = yt at *
          generalize hD : cnt x = D at *
          go_wp2_with (go_at_call 13; refine (unhide PX _ (by repeat first | exact brf _ | refine bal ?_ _)).mono ?_; rintro e v1 ⟨⟨r2, rfl, g1, g2⟩, hb1⟩; have hr2 : r2 ≤ 1048577 := (by rcases Nat.lt_or_ge (most - r) D with h | h; (exact Nat.le_trans (g2 h).2 (by omega)); (rw [g1 h]; omega)))
          have hq := unhide HX
          have hq2 := unhide HRC
          exact ⟨⟨j + 1, r + r2, by omega, by go_num, by go_num, fun h => by have := g1 (by omega); omega, fun h => by rcases Nat.lt_or_ge (most - r) D with h' | h'; (have := g2 h'; omega); (have := g1 h'; omega), btr (bal (unhide HB) _) hb1⟩, by simp [intOf]; omega⟩
      · obtain rfl : j = ks.length := by omega
        rw [List.take_length] at h1 h2
        have HF : Hid ((cnt n ≤ most → r = cnt n) ∧ (most < cnt n → most < r ∧ r ≤ cnt n)) := hide ⟨fun h => by rw [hcm] at h ⊢; exact h1 h, fun h => by rw [hcm] at h ⊢; exact h2 h⟩
        clear hb h1 h2
        go_wp2
        exact bodyPost_ret (v := .int .i64 (r : Nat)) (by simp [results, Tryz.results13, go_sem]) rfl ⟨⟨r, rfl, unhide HF⟩, unhide HB⟩
end Go.Proofs.YtlcpmbdckmdabaaGreatDoor
namespace Go.Proofs.YtlcpmbdckmdabaaGreatDoor
open Go.RowKit Nt
set_option linter.unusedVariables false
set_option maxRecDepth 100000
def ftB (n : Nd) (deep left : Nat) : Bool := decide (dep n + deep ≤ 41) && decide (cnt n ≤ left)
/-- The number that a pointer points to. -/
def Pt (pb : Nat) (left : Nat) (w : World) : Prop := w.cell? ⟨pb, 0, none⟩ = some (.int .i64 left) ∧ w.frozen? ⟨pb, 0, none⟩ = false
theorem gb_trans {a b c : World} {p : Nat} (h : a.grownBy b (some p)) (k : b.grownBy c (some p)) : a.grownBy c (some p) :=
  ⟨k.os.trans h.os, k.tape.trans h.tape, k.output.trans h.output, Nat.le_trans h.size k.size, fun q hq hne => (k.block q (Nat.lt_of_lt_of_le hq h.size) hne).trans (h.block q hq hne)⟩
theorem gb_refl (w : World) (r : Option Nat) : w.grownBy w r := ⟨rfl, rfl, rfl, Nat.le_refl _, fun _ _ _ => rfl⟩
theorem gb_below {w w' : World} (r : Option Nat) (h : Below w.heap.size w w') : w.grownBy w' r := ⟨h.os, h.tape, h.output, h.size, fun k hk _ => h.block k hk⟩
theorem gb_set (w : World) (p o : Nat) (v : Value) : w.grownBy (w.setCell ⟨p, o, none⟩ v) (some p) :=
  ⟨rfl, rfl, rfl, by simp, fun k _ hne => Below.heap_setCell w ⟨p, o, none⟩ v k (fun e => hne (by rw [e]))⟩
/-- What l03Fits answers. -/
def FtC (n : Nd) : Prop := ∀ (v : Value) (W0 w : World) (deep left pb : Nat), deep ≤ 50 → left ≤ 8192 → RdK W0 n.kids v → Below W0.heap.size W0 w → W0.heap.size ≤ pb → Pt pb left w →
  Calls Tryz.prog 10 #[ndV n v, .int .i64 deep, .pointer (some ⟨pb, 0, none⟩)] w fun e w' => e = .returned (.bool (ftB n deep left)) ∧ w.grownBy w' (some pb) ∧ (ftB n deep left = true → Pt pb (left - cnt n) w')
set_option maxHeartbeats 400000 in
theorem ftN : ∀ n, FtC n := by
  refine Nd.ind fun n ih => ?_
  intro v W0 w deep left pb hd hl hr hb hpb hpt
  have hcm := cnt_mk n
  have hdm := dep_mk n
  have HP := hide ih
  have HPT := hide hpt
  have hpl : pb < w.heap.size := World.block_lt_of_cell? w _ hpt.1
  obtain ⟨p1, p2⟩ := hpt
  clear ih
  unfold ndV
  by_cases h1 : 40 < deep
  · have HF : Hid (ftB n deep left = false) := hide (by unfold ftB; rw [decide_eq_false (by omega)]; rfl)
    have q1 : (40 : Int) < (deep : Int) := by omega
    obtain ⟨a0, c0, hv0⟩ := RdK_slice hr
    subst hv0
    generalize n.kind = xk at *
    generalize n.text = xt at *
    go_enter Tryz.func10, Tryz.ntmps10
    go_wp2
    exact bodyPost_ret (v := .bool false) (by simp [results, Tryz.results10, go_sem]) rfl ⟨by rw [unhide HF], gb_below _ (bal (brf w) _), fun h => by rw [unhide HF] at h; cases h⟩
  · by_cases h2 : left = 0
    · subst h2
      have HF : Hid (ftB n deep 0 = false) := hide (by unfold ftB; rw [decide_eq_false (p := cnt n ≤ 0) (by omega), Bool.and_false])
      have q1 : ¬ ((40 : Int) < (deep : Int)) := by omega
      obtain ⟨a0, c0, hv0⟩ := RdK_slice hr
      subst hv0
      have p1' : (w.alloc (Obj.cells #[Value.int IntKind.i64 n.kind, Value.string n.text, Value.slice a0 n.kids.length c0] 29)).cell? ⟨pb, 0, none⟩ = some (.int .i64 0) := cell_later (bal (brf w) _) p1
      generalize n.kind = xk at *
      generalize n.text = xt at *
      go_enter Tryz.func10, Tryz.ntmps10
      go_wp2
      all_goals exact bodyPost_ret (v := .bool false) (by simp [results, Tryz.results10, go_sem]) rfl ⟨by rw [unhide HF], gb_below _ (bal (brf w) _), fun h => by rw [unhide HF] at h; cases h⟩
    · have q1 : ¬ ((40 : Int) < (deep : Int)) := by omega
      have q2 : ((left : Int) == 0) = false := beq_eq_false_iff_ne.2 (by omega)
      have e1 : ((left - 1 : Nat) : Int) = (left : Int) - 1 := by omega
      obtain ⟨a0, c0, hv0⟩ := RdK_slice hr
      have HV0 := hide hv0
      subst hv0
      have p1' : (w.alloc (Obj.cells #[Value.int IntKind.i64 n.kind, Value.string n.text, Value.slice a0 n.kids.length c0] 29)).cell? ⟨pb, 0, none⟩ = some (.int .i64 left) := cell_later (bal (brf w) _) p1
      have p2' : (w.alloc (Obj.cells #[Value.int IntKind.i64 n.kind, Value.string n.text, Value.slice a0 n.kids.length c0] 29)).frozen? ⟨pb, 0, none⟩ = false := frozen_later (bal (brf w) _) p1 p2
      have z1 : ((w.setCell ⟨pb, 0, none⟩ (.int .i64 ((left : Int) - 1))).alloc (Obj.cells #[Value.int IntKind.i64 n.kind, Value.string n.text, Value.slice a0 n.kids.length c0] 29)).cell? ⟨w.heap.size, 2, none⟩ = some (.slice a0 n.kids.length c0) := by
        have hz : (w.setCell ⟨pb, 0, none⟩ (.int .i64 ((left : Int) - 1))).heap.size = w.heap.size := by simp [World.setCell]
        rw [← hz, World.cell?_alloc_new]; rfl
      have hB1 : Hid (Below W0.heap.size W0 ((w.setCell ⟨pb, 0, none⟩ (.int .i64 ((left : Int) - 1))).alloc (Obj.cells #[Value.int IntKind.i64 n.kind, Value.string n.text, Value.slice a0 n.kids.length c0] 29))) := hide ((hb.setCell (p := ⟨pb, 0, none⟩) hpb _).alloc (Nat.le_trans hb.size (gb_set w pb 0 _).size) _)
      have hG1 : Hid (w.grownBy ((w.setCell ⟨pb, 0, none⟩ (.int .i64 ((left : Int) - 1))).alloc (Obj.cells #[Value.int IntKind.i64 n.kind, Value.string n.text, Value.slice a0 n.kids.length c0] 29)) (some pb)) := hide (gb_trans (gb_set w pb 0 _) (gb_below _ (bal (brf _) _)))
      have hP1 : Hid (Pt pb (left - 1) ((w.setCell ⟨pb, 0, none⟩ (.int .i64 ((left : Int) - 1))).alloc (Obj.cells #[Value.int IntKind.i64 n.kind, Value.string n.text, Value.slice a0 n.kids.length c0] 29))) := hide (by
        have c1 : (w.setCell ⟨pb, 0, none⟩ (.int .i64 ((left : Int) - 1))).cell? ⟨pb, 0, none⟩ = some (.int .i64 ((left : Int) - 1)) := set_same p1
        exact ⟨by rw [e1]; exact cell_later (bal (brf _) _) c1, frozen_later (bal (brf _) _) c1 (by rw [set_frozen]; exact p2)⟩)
      generalize n.kind = xk at *
      generalize n.text = xt at *
      go_enter Tryz.func10, Tryz.ntmps10
      go_wp2
      clear p1' p2'
      generalize hw1 : (w.setCell ⟨pb, 0, none⟩ (.int .i64 ((left : Int) - 1))).alloc (Obj.cells #[Value.int IntKind.i64 xk, Value.string xt, Value.slice a0 n.kids.length c0] 29) = w1 at *
      go_loopw [7] (fun i wr => ∃ j : Nat, j ≤ n.kids.length ∧ i = .int .i64 j ∧ w1.grownBy wr (some pb) ∧ Pt pb (left - 1 - cntL (n.kids.take j)) wr ∧ cntL (n.kids.take j) + 1 ≤ left ∧ depL (n.kids.take j) + deep ≤ 40) (fun i wr => n.kids.length - (intOf i).toNat)
      case atStart => exact ⟨0, Nat.zero_le _, rfl, gb_refl _ _, by rw [List.take_zero, cntL]; exact unhide hP1, by rw [List.take_zero, cntL]; omega, by rw [List.take_zero, depL]; omega⟩
      case round =>
        obtain ⟨j, hj, rfl, hg, hp, hc, hdd⟩ := hrel
        have z2 := hg.cell z1 (fun e => absurd (Option.some.inj e) (by show w.heap.size ≠ pb; omega))
        have HG := hide hg
        have HPj := hide hp
        by_cases hjn : j < n.kids.length
        · have hx : n.kids[j]? = some n.kids[j] := List.getElem?_eq_getElem hjn
          generalize n.kids[j] = x at hx
          have hbr : Below W0.heap.size W0 wr := (unhide hB1).grown hg (unhide hB1).size (fun k hk => by injection hk; omega)
          rcases RdK_cases hr with ⟨h0, _⟩ | ⟨b, o, c, vs, hvv, hn, hcs⟩
          · rw [h0] at hjn; simp at hjn
          obtain ⟨k1, k2, k3, hts, hk⟩ := hcs j x hx
          have k1' := cell_later hbr k1
          have k2' := cell_later hbr k2
          have k3' := cell_later hbr k3
          have PX := hide (unhide HP x (List.mem_of_getElem? hx) (vs j) W0 wr (deep + 1) (left - 1 - cntL (n.kids.take j)) pb (by omega) (by omega) hk hbr hpb hp)
          unfold ndV at PX
          have e2 : ((deep + 1 : Nat) : Int) = (deep : Int) + 1 := by omega
          rw [e2] at PX
          obtain ⟨ha0, hc0⟩ : a0 = some ⟨b, o, none⟩ ∧ c0 = c := by injection hvv with h1 h2 h3; exact ⟨h1, h3⟩
          subst ha0 hc0
          obtain ⟨a', c', hv'⟩ := RdK_slice hk
          rw [hv'] at k3' PX
          unfold maxLen at hn
          have hnx := cntL_next hx
          have hdx := depL_next hx
          clear hg hp hk k1 k2 k3 hcs hvv
          have hls : n.kids.length ≤ 9223372036854775807 := by omega
          have hct := cntL_take n.kids (j + 1)
          have hdt : depL (n.kids.take (j + 1)) ≤ depL n.kids := by
            have : depL n.kids = max (depL (n.kids.take (j + 1))) (depL (n.kids.drop (j + 1))) := by rw [← depL_append, List.take_append_drop]
            omega
          cases hft : ftB x (deep + 1) (left - 1 - cntL (n.kids.take j)) with
          | true =>
            rw [hft] at PX
            have hft' : dep x + (deep + 1) ≤ 41 ∧ cnt x ≤ left - 1 - cntL (n.kids.take j) := by unfold ftB at hft; simpa using hft
            generalize x.kind = yk at *
            generalize x.text = yt at *
            go_wp2_with (go_at_call 10; refine (unhide PX).mono ?_; rintro e v1 ⟨rfl, hg1, hp1⟩)
            refine ⟨⟨j + 1, by omega, by go_num, gb_trans (unhide HG) hg1, ?_, by omega, by omega⟩, by simp [intOf]; omega⟩
            have := hp1 (by first | rfl | trivial)
            rw [hnx, show left - 1 - (cntL (n.kids.take j) + cnt x) = left - 1 - cntL (n.kids.take j) - cnt x by omega]
            exact this
          | false =>
            rw [hft] at PX
            have hft' : ¬ (dep x + (deep + 1) ≤ 41 ∧ cnt x ≤ left - 1 - cntL (n.kids.take j)) := by
              intro h
              have : ftB x (deep + 1) (left - 1 - cntL (n.kids.take j)) = true := by unfold ftB; simpa using h
              rw [this] at hft; cases hft
            have HF : Hid (ftB n deep left = false) := hide (by
              rw [← Bool.not_eq_true]; intro h
              unfold ftB at h
              simp only [Bool.and_eq_true, decide_eq_true_eq] at h
              omega)
            generalize x.kind = yk at *
            generalize x.text = yt at *
            go_wp2_with (go_at_call 10; refine (unhide PX).mono ?_; rintro e v1 ⟨rfl, hg1, hp1⟩)
            exact bodyPost_ret (v := .bool false) (by simp [results, Tryz.results10, go_sem]) rfl ⟨by rw [unhide HF], gb_trans (unhide hG1) (gb_trans (unhide HG) hg1), fun h => by rw [unhide HF] at h; cases h⟩
        · obtain rfl : j = n.kids.length := by omega
          rw [List.take_length] at hc hdd HPj
          have HF : Hid (ftB n deep left = true) := hide (by unfold ftB; rw [decide_eq_true (by omega), decide_eq_true (by omega)]; rfl)
          have HN : Hid (left - 1 - cntL n.kids = left - cnt n) := hide (by omega)
          clear hg hp
          go_wp2
          refine bodyPost_ret (v := .bool true) (by simp [results, Tryz.results10, go_sem]) rfl ⟨by rw [unhide HF], gb_trans (unhide hG1) (unhide HG), fun _ => ?_⟩
          rw [← unhide HN]; exact unhide HPj
end Go.Proofs.YtlcpmbdckmdabaaGreatDoor
