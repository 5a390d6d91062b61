/- Texts with unknown letters, and known ones that they may stand for: what Unary, Binary and Choose tell of the first holds of the second. -/
import Derived.Test.YtmbllgblbdfobaaG23L5
namespace Go.Proofs.Ytmbllgblbdfobaa
open Go.RowKit
set_option linter.unusedVariables false
set_option linter.unusedSimpArgs false
/-- A letter, and a known one that it may stand for. -/
def Q (c d : UInt8) : Prop := (c = 48 ∧ d = 48) ∨ (c = 49 ∧ d = 49) ∨ ((c = 120 ∨ c = 122) ∧ (d = 48 ∨ d = 49))
inductive F2 : List UInt8 → List UInt8 → Prop
  | nil : F2 [] []
  | cons {c d : UInt8} {a b : List UInt8} : Q c d → F2 a b → F2 (c :: a) (d :: b)
theorem Q_and {a b x y : UInt8} (h : Q a x) (k : Q b y) : Q (andB a b) (andB x y) := by
  rcases h with ⟨rfl, rfl⟩ | ⟨rfl, rfl⟩ | ⟨rfl | rfl, rfl | rfl⟩ <;> rcases k with ⟨rfl, rfl⟩ | ⟨rfl, rfl⟩ | ⟨rfl | rfl, rfl | rfl⟩ <;> (unfold Q; decide)
theorem Q_not {a x : UInt8} (h : Q a x) : Q (notB a) (notB x) := by
  rcases h with ⟨rfl, rfl⟩ | ⟨rfl, rfl⟩ | ⟨rfl | rfl, rfl | rfl⟩ <;> (unfold Q; decide)
theorem Q_or {a b x y : UInt8} (h : Q a x) (k : Q b y) : Q (orB a b) (orB x y) := Q_not (Q_and (Q_not h) (Q_not k))
theorem Q_xor {a b x y : UInt8} (h : Q a x) (k : Q b y) : Q (xorB a b) (xorB x y) := Q_or (Q_and h (Q_not k)) (Q_and (Q_not h) k)
theorem Q_mix {a b x y : UInt8} (h : Q a x) (k : Q b y) : Q (mixB a b) x ∧ Q (mixB a b) y := by
  rcases h with ⟨rfl, rfl⟩ | ⟨rfl, rfl⟩ | ⟨rfl | rfl, rfl | rfl⟩ <;> rcases k with ⟨rfl, rfl⟩ | ⟨rfl, rfl⟩ | ⟨rfl | rfl, rfl | rfl⟩ <;> (unfold Q; decide)
theorem Q_x {d : UInt8} (h : Vb.knB d = true) : Q 120 d := by
  unfold Vb.knB at h; simp at h; exact .inr (.inr ⟨.inl rfl, h⟩)
theorem Q_kn {c d : UInt8} (h : Q c d) : Vb.knB d = true := by
  rcases h with ⟨rfl, rfl⟩ | ⟨rfl, rfl⟩ | ⟨_, rfl | rfl⟩ <;> rfl
theorem Q_self {d : UInt8} (h : Vb.knB d = true) : Q d d := by
  unfold Vb.knB at h; simp at h; rcases h with rfl | rfl
  · exact .inl ⟨rfl, rfl⟩
  · exact .inr (.inl ⟨rfl, rfl⟩)
theorem Q_eq {c d : UInt8} (h : Q c d) (k : Vb.knB c = true) : c = d := by
  rcases h with ⟨rfl, rfl⟩ | ⟨rfl, rfl⟩ | ⟨rfl | rfl, _⟩
  · rfl
  · rfl
  · exact absurd k (by decide)
  · exact absurd k (by decide)
theorem Q_of {c d : UInt8} (hc : Vb.isV c = true) (hd : Vb.knB d = true) (h : Vb.knB c = true → c = d) : Q c d := by
  by_cases k : Vb.knB c = true
  · rw [h k]; exact Q_self hd
  · unfold Vb.isV at hc; unfold Vb.knB at k hd; simp at hc k hd; rcases hc with ((hc | hc) | hc) | hc
    · exact absurd hc k.1
    · exact absurd hc k.2
    · exact .inr (.inr ⟨.inl hc, hd⟩)
    · exact .inr (.inr ⟨.inr hc, hd⟩)
theorem F2_len {a x : List UInt8} (h : F2 a x) : a.length = x.length := by
  induction h with
  | nil => rfl
  | cons _ _ ih => simp [ih]
theorem F2_kn {a x : List UInt8} (h : F2 a x) : x.all Vb.knB = true := by
  induction h with
  | nil => rfl
  | cons q _ ih => simp [Q_kn q, ih]
theorem F2_eq {a x : List UInt8} (h : F2 a x) (k : a.all Vb.knB = true) : a = x := by
  induction h with
  | nil => rfl
  | cons q _ ih => simp at k; rw [Q_eq q k.1, ih (by simpa using k.2)]
theorem F2_self {x : List UInt8} (h : x.all Vb.knB = true) : F2 x x := by
  induction x with
  | nil => exact .nil
  | cons c t ih => simp at h; exact .cons (Q_self h.1) (ih (by simpa using h.2))
theorem F2_x {x : List UInt8} (h : x.all Vb.knB = true) (n : Nat) (hn : x.length = n) : F2 (List.replicate n 120) x := by
  subst hn
  induction x with
  | nil => exact .nil
  | cons c t ih => simp at h; exact .cons (Q_x h.1) (ih (by simpa using h.2))
theorem F2_one {c d : UInt8} (h : Q c d) : F2 [c] [d] := .cons h .nil
theorem F2_map {f : UInt8 → UInt8} (hf : ∀ c d, Q c d → Q (f c) (f d)) {a x : List UInt8} (h : F2 a x) : F2 (a.map f) (x.map f) := by
  induction h with
  | nil => exact .nil
  | cons q _ ih => exact .cons (hf _ _ q) ih
theorem F2_zip {f : UInt8 → UInt8 → UInt8} (hf : ∀ a b x y, Q a x → Q b y → Q (f a b) (f x y)) {a x : List UInt8} (h : F2 a x) : ∀ {b y : List UInt8}, F2 b y → F2 (List.zipWith f a b) (List.zipWith f x y) := by
  induction h with
  | nil => intro b y _; exact .nil
  | cons q _ ih => intro b y k; cases k with
    | nil => exact .nil
    | cons r k => exact .cons (hf _ _ _ _ q r) (ih k)
theorem F2_fold {f : UInt8 → UInt8 → UInt8} (hf : ∀ a b x y, Q a x → Q b y → Q (f a b) (f x y)) {a x : List UInt8} (h : F2 a x) : ∀ {c d : UInt8}, Q c d → Q (a.foldl f c) (x.foldl f d) := by
  induction h with
  | nil => intro c d q; exact q
  | cons q _ ih => intro c d r; exact ih (hf _ _ _ _ r q)
theorem F2_app {a x b y : List UInt8} (h : F2 a x) (k : F2 b y) : F2 (a ++ b) (x ++ y) := by
  induction h with
  | nil => exact k
  | cons q _ ih => exact .cons q ih
theorem F2_take {a x : List UInt8} (h : F2 a x) : ∀ n, F2 (a.take n) (x.take n) := by
  induction h with
  | nil => intro n; simp; exact .nil
  | cons q _ ih => intro n; cases n with
    | zero => exact .nil
    | succ n => exact .cons q (ih n)
theorem F2_drop {a x : List UInt8} (h : F2 a x) : ∀ n, F2 (a.drop n) (x.drop n) := by
  induction h with
  | nil => intro n; simp; exact .nil
  | cons q k ih => intro n; cases n with
    | zero => exact .cons q k
    | succ n => exact ih n
theorem F2_rep {c d : UInt8} (h : Q c d) (n : Nat) : F2 (List.replicate n c) (List.replicate n d) := by
  induction n with
  | zero => exact .nil
  | succ n ih => exact .cons h ih
theorem F2_head {a x : List UInt8} (h : F2 a x) (h1 : 1 ≤ a.length) : Q (a.headD 0) (x.headD 0) := by
  cases h with
  | nil => simp at h1
  | cons q _ => exact q
theorem F2_eqL {a b x y : List UInt8} (h : F2 a x) (k : F2 b y) : Q (eqL a b) (eqL x y) :=
  F2_fold (fun _ _ _ _ => Q_and) (F2_zip (f := fun x y => notB (xorB x y)) (fun _ _ _ _ p q => Q_not (Q_xor p q)) h k) (.inr (.inl ⟨rfl, rfl⟩))
theorem Q_c0 {c d : UInt8} (h : Q c d) : Q (if c = 122 then 120 else c) (if d = 122 then 120 else d) := by
  rcases h with ⟨rfl, rfl⟩ | ⟨rfl, rfl⟩ | ⟨rfl | rfl, rfl | rfl⟩ <;> (unfold Q; decide)
theorem F2_foldB {f : UInt8 → UInt8 → UInt8} (hf : ∀ a b x y, Q a x → Q b y → Q (f a b) (f x y)) {a x : List UInt8} (h : F2 a x) (h1 : 1 ≤ a.length) : Q (foldB f a) (foldB f x) := by
  cases h with
  | nil => simp at h1
  | cons q k => exact F2_fold hf k (Q_c0 q)
theorem F2_truth {a x : List UInt8} (h : F2 a x) : Q (truthL a) (truthL x) := by
  have e : ∀ {a x : List UInt8}, F2 a x → (a.any Vb.oneB = true → x.any Vb.oneB = true) ∧ (a.all (fun c => c == 48) = true → x.all (fun c => c == 48) = true) ∧ (x.any Vb.oneB = true ∨ x.all (fun c => c == 48) = true) ∧ (x.all (fun c => c == 48) = true → x.any Vb.oneB = false) := by
    intro a x h
    induction h with
    | nil => simp
    | cons q _ ih =>
      obtain ⟨i1, i2, i3, i4⟩ := ih
      rcases q with ⟨rfl, rfl⟩ | ⟨rfl, rfl⟩ | ⟨rfl | rfl, rfl | rfl⟩ <;> simp_all [Vb.oneB]
  obtain ⟨i1, i2, i3, i4⟩ := e h
  unfold truthL
  by_cases h1 : a.any Vb.oneB = true
  · rw [if_pos h1, if_pos (i1 h1)]; exact .inr (.inl ⟨rfl, rfl⟩)
  · rw [if_neg h1]
    by_cases h2 : a.all (fun c => c == 48) = true
    · have := i4 (i2 h2)
      rw [if_pos h2, if_neg (by rw [this]; decide), if_pos (i2 h2)]; exact .inl ⟨rfl, rfl⟩
    · rw [if_neg h2]
      rcases i3 with i3 | i3
      · rw [if_pos i3]; exact Q_x rfl
      · rw [if_neg (by rw [i4 i3]; decide), if_pos i3]; exact Q_x rfl
theorem F2_un (op : Int) {a x : List UInt8} (h : F2 a x) (h1 : 1 ≤ a.length) : F2 (unL op a) (unL op x) := by
  unfold unL
  by_cases o1 : op = 19
  · rw [if_pos o1, if_pos o1]; exact F2_map (fun _ _ => Q_not) h
  rw [if_neg o1, if_neg o1]
  by_cases o2 : op = 20
  · rw [if_pos o2, if_pos o2, if_pos (F2_kn h)]
    by_cases k : a.all Vb.knB = true
    · rw [if_pos k, F2_eq h k]; exact F2_self (Vb.nTxt_known _ _)
    · rw [if_neg k]; exact F2_x (Vb.nTxt_known _ _) _ (by rw [Vb.nTxt_len, F2_len h])
  rw [if_neg o2, if_neg o2]
  by_cases o3 : op = 21
  · rw [if_pos o3, if_pos o3]; exact F2_one (F2_foldB (fun _ _ _ _ => Q_and) h h1)
  rw [if_neg o3, if_neg o3]
  by_cases o4 : op = 22
  · rw [if_pos o4, if_pos o4]; exact F2_one (F2_foldB (fun _ _ _ _ => Q_or) h h1)
  rw [if_neg o4, if_neg o4]
  by_cases o5 : op = 23
  · rw [if_pos o5, if_pos o5]; exact F2_one (F2_foldB (fun _ _ _ _ => Q_xor) h h1)
  rw [if_neg o5, if_neg o5]
  by_cases o6 : op = 24
  · rw [if_pos o6, if_pos o6]; exact F2_one (Q_not (F2_truth h))
  rw [if_neg o6, if_neg o6]; exact .nil
theorem F2_mix {a x : List UInt8} (h : F2 a x) : ∀ {b y : List UInt8}, F2 b y → a.length = b.length → F2 (List.zipWith mixB a b) x ∧ F2 (List.zipWith mixB a b) y := by
  induction h with
  | nil => intro b y k e; cases k with
    | nil => exact ⟨.nil, .nil⟩
    | cons _ _ => simp at e
  | cons q _ ih => intro b y k e; cases k with
    | nil => simp at e
    | cons r k => have i := ih k (by simpa using e); have m := Q_mix q r; exact ⟨.cons m.1 i.1, .cons m.2 i.2⟩
theorem F2_cho {c z a x b y : List UInt8} (hc : F2 c z) (ha : F2 a x) (hb : F2 b y) (hl : a.length = b.length) : F2 (choL c a b) (choL z x y) := by
  have t := F2_truth hc
  have m := F2_mix ha hb hl
  unfold choL
  rcases t with ⟨e1, e2⟩ | ⟨e1, e2⟩ | ⟨e1, e2⟩
  · rw [e1, e2]; exact hb
  · rw [e1, e2]; exact ha
  · rw [if_neg (by rcases e1 with e | e <;> (rw [e]; decide)), if_neg (by rcases e1 with e | e <;> (rw [e]; decide))]
    rcases e2 with e | e
    · rw [e]; exact m.2
    · rw [e]; exact m.1
theorem F2_tell {a x : List UInt8} (h : F2 a x) : ∀ (i : Nat) (hi : i < a.length) (hj : i < x.length), Vb.knB a[i] = true → a[i] = x[i] := by
  induction h with
  | nil => intro i hi; simp at hi
  | cons q _ ih => intro i hi hj k; cases i with
    | zero => exact Q_eq q k
    | succ i => exact ih i (by simpa using hi) (by simpa using hj) k
theorem F2_of : ∀ {a x : List UInt8}, a.length = x.length → a.all Vb.isV = true → (∀ (i : Nat) (hi : i < a.length) (hj : i < x.length), Vb.knB x[i] = true ∧ (Vb.knB a[i] = true → a[i] = x[i])) → F2 a x
  | [], [], _, _, _ => .nil
  | [], _ :: _, e, _, _ => by simp at e
  | _ :: _, [], e, _, _ => by simp at e
  | c :: a, d :: x, e, v, h => by
    simp at v
    have h0 := h 0 (by simp) (by simp)
    exact .cons (Q_of v.1 h0.1 h0.2) (F2_of (by simpa using e) (by simpa using v.2) fun i hi hj => h (i + 1) (by simpa using hi) (by simpa using hj))
theorem F2_v {a x : List UInt8} (h : F2 a x) : a.all Vb.isV = true := by
  induction h with
  | nil => rfl
  | @cons c d a b q _ ih =>
    have : Vb.isV c = true := by rcases q with ⟨rfl, rfl⟩ | ⟨rfl, rfl⟩ | ⟨rfl | rfl, _⟩ <;> rfl
    simp [this] at ih ⊢; exact ih
theorem ok_S {l : List UInt8} (hv : l.all Vb.isV = true) (h1 : 1 ≤ l.length) (h2 : l.length ≤ 64) : Vb.okV (L (S l)) = true := by
  unfold Vb.okV; rw [L_S, hv, decide_eq_true h1, decide_eq_true h2]; rfl
/-- Of what is told of a and b the known letters are so for x and y. -/
def UnkB (op : Int) (sg : Bool) (a b x y : List UInt8) : Prop := ∃ R R' : List UInt8, F2 R R' ∧ 1 ≤ R.length ∧ R.length ≤ 64 ∧
  (∀ w, Calls Try.prog 28 #[.int .i64 op, .bool sg, .string (S a), .string (S b)] w fun e w' => e = .returned (.string (S R)) ∧ Below w.heap.size w w') ∧
  (∀ w, Calls Try.prog 28 #[.int .i64 op, .bool sg, .string (S x), .string (S y)] w fun e w' => e = .returned (.string (S R')) ∧ Below w.heap.size w w')
theorem small {l : List UInt8} {n : Nat} (hl : l.length = n) (h2 : n ≤ 64) : (S l).size ≤ maxLen := by rw [S_size, hl]; unfold maxLen; omega
theorem sizeS {l : List UInt8} {n : Nat} (hl : l.length = n) : (S l).size = n := by rw [S_size, hl]
theorem zlen (f : UInt8 → UInt8 → UInt8) {a b : List UInt8} {n : Nat} (la : a.length = n) (lb : b.length = n) : (List.zipWith f a b).length = n := by rw [List.length_zipWith]; omega
theorem unk1 {a b x y : List UInt8} {n : Nat} (sg : Bool) (ha : F2 a x) (hb : F2 b y) (la : a.length = n) (lb : b.length = n) (h1 : 1 ≤ n) (h2 : n ≤ 64) : UnkB 1 sg a b x y := by
  have va := ok_S (F2_v ha) (by omega) (by omega)
  have vb := ok_S (F2_v hb) (by omega) (by omega)
  have lx : x.length = n := by rw [← F2_len ha]; exact la
  have ly : y.length = n := by rw [← F2_len hb]; exact lb
  have kx := F2_kn ha
  have ky := F2_kn hb
  have vx := ok_S (knV kx) (by omega) (by omega)
  have vy := ok_S (knV ky) (by omega) (by omega)
  have kx' : (L (S x)).all Vb.knB = true := by rw [L_S]; exact kx
  have ky' : (L (S y)).all Vb.knB = true := by rw [L_S]; exact ky
  refine ⟨_, _, ?_, ?_, ?_, fun w => sBin1 sg (S a) (S b) n w (small la h2) (small lb h2) va vb (sizeS la) (sizeS lb), fun w => sBin1 sg (S x) (S y) n w (small lx h2) (small ly h2) vx vy (sizeS lx) (sizeS ly)⟩
  · rw [L_S, L_S, L_S, L_S]; exact F2_zip (fun _ _ _ _ => Q_and) ha hb
  · rw [L_S, L_S, zlen _ la lb]; exact h1
  · rw [L_S, L_S, zlen _ la lb]; exact h2
theorem unk2 {a b x y : List UInt8} {n : Nat} (sg : Bool) (ha : F2 a x) (hb : F2 b y) (la : a.length = n) (lb : b.length = n) (h1 : 1 ≤ n) (h2 : n ≤ 64) : UnkB 2 sg a b x y := by
  have va := ok_S (F2_v ha) (by omega) (by omega)
  have vb := ok_S (F2_v hb) (by omega) (by omega)
  have lx : x.length = n := by rw [← F2_len ha]; exact la
  have ly : y.length = n := by rw [← F2_len hb]; exact lb
  have kx := F2_kn ha
  have ky := F2_kn hb
  have vx := ok_S (knV kx) (by omega) (by omega)
  have vy := ok_S (knV ky) (by omega) (by omega)
  have kx' : (L (S x)).all Vb.knB = true := by rw [L_S]; exact kx
  have ky' : (L (S y)).all Vb.knB = true := by rw [L_S]; exact ky
  refine ⟨_, _, ?_, ?_, ?_, fun w => sBin2 sg (S a) (S b) n w (small la h2) (small lb h2) va vb (sizeS la) (sizeS lb), fun w => sBin2 sg (S x) (S y) n w (small lx h2) (small ly h2) vx vy (sizeS lx) (sizeS ly)⟩
  · rw [L_S, L_S, L_S, L_S]; exact F2_zip (fun _ _ _ _ => Q_or) ha hb
  · rw [L_S, L_S, zlen _ la lb]; exact h1
  · rw [L_S, L_S, zlen _ la lb]; exact h2
theorem unk3 {a b x y : List UInt8} {n : Nat} (sg : Bool) (ha : F2 a x) (hb : F2 b y) (la : a.length = n) (lb : b.length = n) (h1 : 1 ≤ n) (h2 : n ≤ 64) : UnkB 3 sg a b x y := by
  have va := ok_S (F2_v ha) (by omega) (by omega)
  have vb := ok_S (F2_v hb) (by omega) (by omega)
  have lx : x.length = n := by rw [← F2_len ha]; exact la
  have ly : y.length = n := by rw [← F2_len hb]; exact lb
  have kx := F2_kn ha
  have ky := F2_kn hb
  have vx := ok_S (knV kx) (by omega) (by omega)
  have vy := ok_S (knV ky) (by omega) (by omega)
  have kx' : (L (S x)).all Vb.knB = true := by rw [L_S]; exact kx
  have ky' : (L (S y)).all Vb.knB = true := by rw [L_S]; exact ky
  refine ⟨_, _, ?_, ?_, ?_, fun w => sBin3 sg (S a) (S b) n w (small la h2) (small lb h2) va vb (sizeS la) (sizeS lb), fun w => sBin3 sg (S x) (S y) n w (small lx h2) (small ly h2) vx vy (sizeS lx) (sizeS ly)⟩
  · rw [L_S, L_S, L_S, L_S]; exact F2_zip (fun _ _ _ _ => Q_xor) ha hb
  · rw [L_S, L_S, zlen _ la lb]; exact h1
  · rw [L_S, L_S, zlen _ la lb]; exact h2
theorem unk9 {a b x y : List UInt8} {n : Nat} (sg : Bool) (ha : F2 a x) (hb : F2 b y) (la : a.length = n) (lb : b.length = n) (h1 : 1 ≤ n) (h2 : n ≤ 64) : UnkB 9 sg a b x y := by
  have va := ok_S (F2_v ha) (by omega) (by omega)
  have vb := ok_S (F2_v hb) (by omega) (by omega)
  have lx : x.length = n := by rw [← F2_len ha]; exact la
  have ly : y.length = n := by rw [← F2_len hb]; exact lb
  have kx := F2_kn ha
  have ky := F2_kn hb
  have vx := ok_S (knV kx) (by omega) (by omega)
  have vy := ok_S (knV ky) (by omega) (by omega)
  have kx' : (L (S x)).all Vb.knB = true := by rw [L_S]; exact kx
  have ky' : (L (S y)).all Vb.knB = true := by rw [L_S]; exact ky
  refine ⟨_, _, ?_, ?_, ?_, fun w => sBin9 sg (S a) (S b) n w (small la h2) (small lb h2) va vb (sizeS la) (sizeS lb), fun w => sBin9 sg (S x) (S y) n w (small lx h2) (small ly h2) vx vy (sizeS lx) (sizeS ly)⟩
  · rw [L_S, L_S, L_S, L_S]; exact F2_one (F2_eqL ha hb)
  · exact Nat.le_refl 1
  · show 1 ≤ 64; decide
theorem unk10 {a b x y : List UInt8} {n : Nat} (sg : Bool) (ha : F2 a x) (hb : F2 b y) (la : a.length = n) (lb : b.length = n) (h1 : 1 ≤ n) (h2 : n ≤ 64) : UnkB 10 sg a b x y := by
  have va := ok_S (F2_v ha) (by omega) (by omega)
  have vb := ok_S (F2_v hb) (by omega) (by omega)
  have lx : x.length = n := by rw [← F2_len ha]; exact la
  have ly : y.length = n := by rw [← F2_len hb]; exact lb
  have kx := F2_kn ha
  have ky := F2_kn hb
  have vx := ok_S (knV kx) (by omega) (by omega)
  have vy := ok_S (knV ky) (by omega) (by omega)
  have kx' : (L (S x)).all Vb.knB = true := by rw [L_S]; exact kx
  have ky' : (L (S y)).all Vb.knB = true := by rw [L_S]; exact ky
  refine ⟨_, _, ?_, ?_, ?_, fun w => sBin10 sg (S a) (S b) n w (small la h2) (small lb h2) va vb (sizeS la) (sizeS lb), fun w => sBin10 sg (S x) (S y) n w (small lx h2) (small ly h2) vx vy (sizeS lx) (sizeS ly)⟩
  · rw [L_S, L_S, L_S, L_S]; exact F2_one (Q_not (F2_eqL ha hb))
  · exact Nat.le_refl 1
  · show 1 ≤ 64; decide
theorem unk17 {a b x y : List UInt8} {n : Nat} (sg : Bool) (ha : F2 a x) (hb : F2 b y) (la : a.length = n) (lb : b.length = n) (h1 : 1 ≤ n) (h2 : n ≤ 64) : UnkB 17 sg a b x y := by
  have va := ok_S (F2_v ha) (by omega) (by omega)
  have vb := ok_S (F2_v hb) (by omega) (by omega)
  have lx : x.length = n := by rw [← F2_len ha]; exact la
  have ly : y.length = n := by rw [← F2_len hb]; exact lb
  have kx := F2_kn ha
  have ky := F2_kn hb
  have vx := ok_S (knV kx) (by omega) (by omega)
  have vy := ok_S (knV ky) (by omega) (by omega)
  have kx' : (L (S x)).all Vb.knB = true := by rw [L_S]; exact kx
  have ky' : (L (S y)).all Vb.knB = true := by rw [L_S]; exact ky
  refine ⟨_, _, ?_, ?_, ?_, fun w => sBin17 sg (S a) (S b) n n w (small la h2) (small lb h2) va vb (sizeS la) (sizeS lb), fun w => sBin17 sg (S x) (S y) n n w (small lx h2) (small ly h2) vx vy (sizeS lx) (sizeS ly)⟩
  · rw [L_S, L_S, L_S, L_S]; exact F2_one (Q_and (F2_truth ha) (F2_truth hb))
  · exact Nat.le_refl 1
  · show 1 ≤ 64; decide
theorem unk18 {a b x y : List UInt8} {n : Nat} (sg : Bool) (ha : F2 a x) (hb : F2 b y) (la : a.length = n) (lb : b.length = n) (h1 : 1 ≤ n) (h2 : n ≤ 64) : UnkB 18 sg a b x y := by
  have va := ok_S (F2_v ha) (by omega) (by omega)
  have vb := ok_S (F2_v hb) (by omega) (by omega)
  have lx : x.length = n := by rw [← F2_len ha]; exact la
  have ly : y.length = n := by rw [← F2_len hb]; exact lb
  have kx := F2_kn ha
  have ky := F2_kn hb
  have vx := ok_S (knV kx) (by omega) (by omega)
  have vy := ok_S (knV ky) (by omega) (by omega)
  have kx' : (L (S x)).all Vb.knB = true := by rw [L_S]; exact kx
  have ky' : (L (S y)).all Vb.knB = true := by rw [L_S]; exact ky
  refine ⟨_, _, ?_, ?_, ?_, fun w => sBin18 sg (S a) (S b) n n w (small la h2) (small lb h2) va vb (sizeS la) (sizeS lb), fun w => sBin18 sg (S x) (S y) n n w (small lx h2) (small ly h2) vx vy (sizeS lx) (sizeS ly)⟩
  · rw [L_S, L_S, L_S, L_S]; exact F2_one (Q_or (F2_truth ha) (F2_truth hb))
  · exact Nat.le_refl 1
  · show 1 ≤ 64; decide
theorem unk4 {a b x y : List UInt8} {n : Nat} (sg : Bool) (ha : F2 a x) (hb : F2 b y) (la : a.length = n) (lb : b.length = n) (h1 : 1 ≤ n) (h2 : n ≤ 64) : UnkB 4 sg a b x y := by
  have va := ok_S (F2_v ha) (by omega) (by omega)
  have vb := ok_S (F2_v hb) (by omega) (by omega)
  have lx : x.length = n := by rw [← F2_len ha]; exact la
  have ly : y.length = n := by rw [← F2_len hb]; exact lb
  have kx := F2_kn ha
  have ky := F2_kn hb
  have vx := ok_S (knV kx) (by omega) (by omega)
  have vy := ok_S (knV ky) (by omega) (by omega)
  have kx' : (L (S x)).all Vb.knB = true := by rw [L_S]; exact kx
  have ky' : (L (S y)).all Vb.knB = true := by rw [L_S]; exact ky
  by_cases hk : ((L (S a)).all Vb.knB && (L (S b)).all Vb.knB) = true
  · rw [L_S, L_S, Bool.and_eq_true] at hk
    obtain rfl := F2_eq ha hk.1
    obtain rfl := F2_eq hb hk.2
    exact ⟨_, _, F2_self (Vb.nTxt_known _ _), by rw [Vb.nTxt_len]; exact h1, by rw [Vb.nTxt_len]; exact h2, fun w => sBin4 sg (S a) (S b) n w (small la h2) (small lb h2) vx vy (sizeS la) (sizeS lb) kx' ky', fun w => sBin4 sg (S a) (S b) n w (small la h2) (small lb h2) vx vy (sizeS la) (sizeS lb) kx' ky'⟩
  · refine ⟨_, _, F2_x (Vb.nTxt_known _ _) n (Vb.nTxt_len _ _), by rw [List.length_replicate]; exact h1, by rw [List.length_replicate]; exact h2, fun w => sBin4u sg (S a) (S b) n w (small la h2) (small lb h2) va vb (sizeS la) (sizeS lb) (by simpa using hk), fun w => sBin4 sg (S x) (S y) n w (small lx h2) (small ly h2) vx vy (sizeS lx) (sizeS ly) kx' ky'⟩
theorem unk5 {a b x y : List UInt8} {n : Nat} (sg : Bool) (ha : F2 a x) (hb : F2 b y) (la : a.length = n) (lb : b.length = n) (h1 : 1 ≤ n) (h2 : n ≤ 64) : UnkB 5 sg a b x y := by
  have va := ok_S (F2_v ha) (by omega) (by omega)
  have vb := ok_S (F2_v hb) (by omega) (by omega)
  have lx : x.length = n := by rw [← F2_len ha]; exact la
  have ly : y.length = n := by rw [← F2_len hb]; exact lb
  have kx := F2_kn ha
  have ky := F2_kn hb
  have vx := ok_S (knV kx) (by omega) (by omega)
  have vy := ok_S (knV ky) (by omega) (by omega)
  have kx' : (L (S x)).all Vb.knB = true := by rw [L_S]; exact kx
  have ky' : (L (S y)).all Vb.knB = true := by rw [L_S]; exact ky
  by_cases hk : ((L (S a)).all Vb.knB && (L (S b)).all Vb.knB) = true
  · rw [L_S, L_S, Bool.and_eq_true] at hk
    obtain rfl := F2_eq ha hk.1
    obtain rfl := F2_eq hb hk.2
    exact ⟨_, _, F2_self (Vb.nTxt_known _ _), by rw [Vb.nTxt_len]; exact h1, by rw [Vb.nTxt_len]; exact h2, fun w => sBin5 sg (S a) (S b) n w (small la h2) (small lb h2) vx vy (sizeS la) (sizeS lb) kx' ky', fun w => sBin5 sg (S a) (S b) n w (small la h2) (small lb h2) vx vy (sizeS la) (sizeS lb) kx' ky'⟩
  · refine ⟨_, _, F2_x (Vb.nTxt_known _ _) n (Vb.nTxt_len _ _), by rw [List.length_replicate]; exact h1, by rw [List.length_replicate]; exact h2, fun w => sBin5u sg (S a) (S b) n w (small la h2) (small lb h2) va vb (sizeS la) (sizeS lb) (by simpa using hk), fun w => sBin5 sg (S x) (S y) n w (small lx h2) (small ly h2) vx vy (sizeS lx) (sizeS ly) kx' ky'⟩
theorem unk6 {a b x y : List UInt8} {n : Nat} (sg : Bool) (ha : F2 a x) (hb : F2 b y) (la : a.length = n) (lb : b.length = n) (h1 : 1 ≤ n) (h2 : n ≤ 64) : UnkB 6 sg a b x y := by
  have va := ok_S (F2_v ha) (by omega) (by omega)
  have vb := ok_S (F2_v hb) (by omega) (by omega)
  have lx : x.length = n := by rw [← F2_len ha]; exact la
  have ly : y.length = n := by rw [← F2_len hb]; exact lb
  have kx := F2_kn ha
  have ky := F2_kn hb
  have vx := ok_S (knV kx) (by omega) (by omega)
  have vy := ok_S (knV ky) (by omega) (by omega)
  have kx' : (L (S x)).all Vb.knB = true := by rw [L_S]; exact kx
  have ky' : (L (S y)).all Vb.knB = true := by rw [L_S]; exact ky
  by_cases hk : ((L (S a)).all Vb.knB && (L (S b)).all Vb.knB) = true
  · rw [L_S, L_S, Bool.and_eq_true] at hk
    obtain rfl := F2_eq ha hk.1
    obtain rfl := F2_eq hb hk.2
    exact ⟨_, _, F2_self (Vb.nTxt_known _ _), by rw [Vb.nTxt_len]; exact h1, by rw [Vb.nTxt_len]; exact h2, fun w => sBin6 sg (S a) (S b) n w (small la h2) (small lb h2) vx vy (sizeS la) (sizeS lb) kx' ky', fun w => sBin6 sg (S a) (S b) n w (small la h2) (small lb h2) vx vy (sizeS la) (sizeS lb) kx' ky'⟩
  · refine ⟨_, _, F2_x (Vb.nTxt_known _ _) n (Vb.nTxt_len _ _), by rw [List.length_replicate]; exact h1, by rw [List.length_replicate]; exact h2, fun w => sBin6u sg (S a) (S b) n w (small la h2) (small lb h2) va vb (sizeS la) (sizeS lb) (by simpa using hk), fun w => sBin6 sg (S x) (S y) n w (small lx h2) (small ly h2) vx vy (sizeS lx) (sizeS ly) kx' ky'⟩
theorem kn_blc (c : Bool) : Vb.knB (bl c) = true := by cases c <;> rfl
theorem unk12 {a b x y : List UInt8} {n : Nat} (sg : Bool) (ha : F2 a x) (hb : F2 b y) (la : a.length = n) (lb : b.length = n) (h1 : 1 ≤ n) (h2 : n ≤ 64) : UnkB 12 sg a b x y := by
  have va := ok_S (F2_v ha) (by omega) (by omega)
  have vb := ok_S (F2_v hb) (by omega) (by omega)
  have lx : x.length = n := by rw [← F2_len ha]; exact la
  have ly : y.length = n := by rw [← F2_len hb]; exact lb
  have kx := F2_kn ha
  have ky := F2_kn hb
  have vx := ok_S (knV kx) (by omega) (by omega)
  have vy := ok_S (knV ky) (by omega) (by omega)
  have kx' : (L (S x)).all Vb.knB = true := by rw [L_S]; exact kx
  have ky' : (L (S y)).all Vb.knB = true := by rw [L_S]; exact ky
  by_cases hk : ((L (S a)).all Vb.knB && (L (S b)).all Vb.knB) = true
  · rw [L_S, L_S, Bool.and_eq_true] at hk
    obtain rfl := F2_eq ha hk.1
    obtain rfl := F2_eq hb hk.2
    exact ⟨_, _, F2_one (Q_self (kn_blc _)), Nat.le_refl 1, (by decide : 1 ≤ 64), fun w => sBin12 sg (S a) (S b) n w (small la h2) (small lb h2) vx vy (sizeS la) (sizeS lb) kx' ky', fun w => sBin12 sg (S a) (S b) n w (small la h2) (small lb h2) vx vy (sizeS la) (sizeS lb) kx' ky'⟩
  · refine ⟨_, _, F2_one (Q_x (kn_blc _)), Nat.le_refl 1, (by decide : 1 ≤ 64), fun w => sBin12u sg (S a) (S b) n w (small la h2) (small lb h2) va vb (sizeS la) (sizeS lb) (by simpa using hk), fun w => sBin12 sg (S x) (S y) n w (small lx h2) (small ly h2) vx vy (sizeS lx) (sizeS ly) kx' ky'⟩
theorem unk13 {a b x y : List UInt8} {n : Nat} (sg : Bool) (ha : F2 a x) (hb : F2 b y) (la : a.length = n) (lb : b.length = n) (h1 : 1 ≤ n) (h2 : n ≤ 64) : UnkB 13 sg a b x y := by
  have va := ok_S (F2_v ha) (by omega) (by omega)
  have vb := ok_S (F2_v hb) (by omega) (by omega)
  have lx : x.length = n := by rw [← F2_len ha]; exact la
  have ly : y.length = n := by rw [← F2_len hb]; exact lb
  have kx := F2_kn ha
  have ky := F2_kn hb
  have vx := ok_S (knV kx) (by omega) (by omega)
  have vy := ok_S (knV ky) (by omega) (by omega)
  have kx' : (L (S x)).all Vb.knB = true := by rw [L_S]; exact kx
  have ky' : (L (S y)).all Vb.knB = true := by rw [L_S]; exact ky
  by_cases hk : ((L (S a)).all Vb.knB && (L (S b)).all Vb.knB) = true
  · rw [L_S, L_S, Bool.and_eq_true] at hk
    obtain rfl := F2_eq ha hk.1
    obtain rfl := F2_eq hb hk.2
    exact ⟨_, _, F2_one (Q_self (kn_blc _)), Nat.le_refl 1, (by decide : 1 ≤ 64), fun w => sBin13 sg (S a) (S b) n w (small la h2) (small lb h2) vx vy (sizeS la) (sizeS lb) kx' ky', fun w => sBin13 sg (S a) (S b) n w (small la h2) (small lb h2) vx vy (sizeS la) (sizeS lb) kx' ky'⟩
  · refine ⟨_, _, F2_one (Q_x (kn_blc _)), Nat.le_refl 1, (by decide : 1 ≤ 64), fun w => sBin13u sg (S a) (S b) n w (small la h2) (small lb h2) va vb (sizeS la) (sizeS lb) (by simpa using hk), fun w => sBin13 sg (S x) (S y) n w (small lx h2) (small ly h2) vx vy (sizeS lx) (sizeS ly) kx' ky'⟩
theorem divL_len (n : Nat) (sg : Bool) (a b : List UInt8) : (divL n sg a b).length = n := by unfold divL; split <;> exact Vb.nTxt_len _ _
theorem divL_kn (n : Nat) (sg : Bool) (a b : List UInt8) : (divL n sg a b).all Vb.knB = true := by unfold divL; split <;> exact Vb.nTxt_known _ _
theorem unk7 {a b x y : List UInt8} {n : Nat} (sg : Bool) (ha : F2 a x) (hb : F2 b y) (la : a.length = n) (lb : b.length = n) (h1 : 1 ≤ n) (h2 : n ≤ 64)(hz : 0 < Vb.num y) : UnkB 7 sg a b x y := by
  have va := ok_S (F2_v ha) (by omega) (by omega)
  have vb := ok_S (F2_v hb) (by omega) (by omega)
  have lx : x.length = n := by rw [← F2_len ha]; exact la
  have ly : y.length = n := by rw [← F2_len hb]; exact lb
  have kx := F2_kn ha
  have ky := F2_kn hb
  have vx := ok_S (knV kx) (by omega) (by omega)
  have vy := ok_S (knV ky) (by omega) (by omega)
  have kx' : (L (S x)).all Vb.knB = true := by rw [L_S]; exact kx
  have ky' : (L (S y)).all Vb.knB = true := by rw [L_S]; exact ky
  have hz' : 0 < Vb.num (L (S y)) := by rw [L_S]; exact hz
  by_cases hk : ((L (S a)).all Vb.knB && (L (S b)).all Vb.knB) = true
  · rw [L_S, L_S, Bool.and_eq_true] at hk
    obtain rfl := F2_eq ha hk.1
    obtain rfl := F2_eq hb hk.2
    exact ⟨_, _, F2_self (divL_kn _ _ _ _), by rw [divL_len]; exact h1, by rw [divL_len]; exact h2, fun w => sBin7 sg (S a) (S b) n w (small la h2) (small lb h2) vx vy (sizeS la) (sizeS lb) kx' ky' hz', fun w => sBin7 sg (S a) (S b) n w (small la h2) (small lb h2) vx vy (sizeS la) (sizeS lb) kx' ky' hz'⟩
  · refine ⟨_, _, F2_x (divL_kn _ _ _ _) n (divL_len _ _ _ _), by rw [List.length_replicate]; exact h1, by rw [List.length_replicate]; exact h2, fun w => sBin7u sg (S a) (S b) n w (small la h2) (small lb h2) va vb (sizeS la) (sizeS lb) (by simpa using hk), fun w => sBin7 sg (S x) (S y) n w (small lx h2) (small ly h2) vx vy (sizeS lx) (sizeS ly) kx' ky' hz'⟩
theorem remL_len (n : Nat) (sg : Bool) (a b : List UInt8) : (remL n sg a b).length = n := by unfold remL; split <;> exact Vb.nTxt_len _ _
theorem remL_kn (n : Nat) (sg : Bool) (a b : List UInt8) : (remL n sg a b).all Vb.knB = true := by unfold remL; split <;> exact Vb.nTxt_known _ _
theorem unk8 {a b x y : List UInt8} {n : Nat} (sg : Bool) (ha : F2 a x) (hb : F2 b y) (la : a.length = n) (lb : b.length = n) (h1 : 1 ≤ n) (h2 : n ≤ 64)(hz : 0 < Vb.num y) : UnkB 8 sg a b x y := by
  have va := ok_S (F2_v ha) (by omega) (by omega)
  have vb := ok_S (F2_v hb) (by omega) (by omega)
  have lx : x.length = n := by rw [← F2_len ha]; exact la
  have ly : y.length = n := by rw [← F2_len hb]; exact lb
  have kx := F2_kn ha
  have ky := F2_kn hb
  have vx := ok_S (knV kx) (by omega) (by omega)
  have vy := ok_S (knV ky) (by omega) (by omega)
  have kx' : (L (S x)).all Vb.knB = true := by rw [L_S]; exact kx
  have ky' : (L (S y)).all Vb.knB = true := by rw [L_S]; exact ky
  have hz' : 0 < Vb.num (L (S y)) := by rw [L_S]; exact hz
  by_cases hk : ((L (S a)).all Vb.knB && (L (S b)).all Vb.knB) = true
  · rw [L_S, L_S, Bool.and_eq_true] at hk
    obtain rfl := F2_eq ha hk.1
    obtain rfl := F2_eq hb hk.2
    exact ⟨_, _, F2_self (remL_kn _ _ _ _), by rw [remL_len]; exact h1, by rw [remL_len]; exact h2, fun w => sBin8 sg (S a) (S b) n w (small la h2) (small lb h2) vx vy (sizeS la) (sizeS lb) kx' ky' hz', fun w => sBin8 sg (S a) (S b) n w (small la h2) (small lb h2) vx vy (sizeS la) (sizeS lb) kx' ky' hz'⟩
  · refine ⟨_, _, F2_x (remL_kn _ _ _ _) n (remL_len _ _ _ _), by rw [List.length_replicate]; exact h1, by rw [List.length_replicate]; exact h2, fun w => sBin8u sg (S a) (S b) n w (small la h2) (small lb h2) va vb (sizeS la) (sizeS lb) (by simpa using hk), fun w => sBin8 sg (S x) (S y) n w (small lx h2) (small ly h2) vx vy (sizeS lx) (sizeS ly) kx' ky' hz'⟩
theorem unk14 {a b x y : List UInt8} {n : Nat} (sg : Bool) (ha : F2 a x) (hb : F2 b y) (la : a.length = n) (lb : b.length = n) (h1 : 1 ≤ n) (h2 : n ≤ 64) : UnkB 14 sg a b x y := by
  have va := ok_S (F2_v ha) (by omega) (by omega)
  have vb := ok_S (F2_v hb) (by omega) (by omega)
  have lx : x.length = n := by rw [← F2_len ha]; exact la
  have ly : y.length = n := by rw [← F2_len hb]; exact lb
  have kx := F2_kn ha
  have ky := F2_kn hb
  have vx := ok_S (knV kx) (by omega) (by omega)
  have vy := ok_S (knV ky) (by omega) (by omega)
  have kx' : (L (S x)).all Vb.knB = true := by rw [L_S]; exact kx
  have ky' : (L (S y)).all Vb.knB = true := by rw [L_S]; exact ky
  have ln : ∀ l : List UInt8, l.length = n → (List.drop (min (Vb.num y) n) l ++ List.replicate (min (Vb.num y) n) 48).length = n := fun l hl => by simp; omega
  have s2 := fun w => sBin14 sg (S x) (S y) n n w (small lx h2) (small ly h2) vx vy (sizeS lx) (sizeS ly) ky'
  rw [L_S, L_S] at s2
  by_cases hk : (L (S b)).all Vb.knB = true
  · have s1 := fun w => sBin14 sg (S a) (S b) n n w (small la h2) (small lb h2) va vb (sizeS la) (sizeS lb) hk
    rw [L_S] at hk
    obtain rfl := F2_eq hb hk
    rw [L_S, L_S] at s1
    exact ⟨_, _, F2_app (F2_drop ha _) (F2_rep (.inl ⟨rfl, rfl⟩) _), by rw [ln a la]; exact h1, by rw [ln a la]; exact h2, s1, s2⟩
  · have kk : (List.drop (min (Vb.num y) n) x ++ List.replicate (min (Vb.num y) n) 48).all Vb.knB = true := F2_kn (F2_app (F2_drop ha _) (F2_rep (.inl ⟨rfl, rfl⟩) _))
    exact ⟨_, _, F2_x kk n (ln x lx), by rw [List.length_replicate]; exact h1, by rw [List.length_replicate]; exact h2, fun w => sBin14u sg (S a) (S b) n n w (small la h2) (small lb h2) va vb (sizeS la) (sizeS lb) (by simpa using hk), s2⟩
theorem unk15 {a b x y : List UInt8} {n : Nat} (sg : Bool) (ha : F2 a x) (hb : F2 b y) (la : a.length = n) (lb : b.length = n) (h1 : 1 ≤ n) (h2 : n ≤ 64) : UnkB 15 sg a b x y := by
  have va := ok_S (F2_v ha) (by omega) (by omega)
  have vb := ok_S (F2_v hb) (by omega) (by omega)
  have lx : x.length = n := by rw [← F2_len ha]; exact la
  have ly : y.length = n := by rw [← F2_len hb]; exact lb
  have kx := F2_kn ha
  have ky := F2_kn hb
  have vx := ok_S (knV kx) (by omega) (by omega)
  have vy := ok_S (knV ky) (by omega) (by omega)
  have kx' : (L (S x)).all Vb.knB = true := by rw [L_S]; exact kx
  have ky' : (L (S y)).all Vb.knB = true := by rw [L_S]; exact ky
  have ln : ∀ l : List UInt8, l.length = n → (List.replicate (min (Vb.num y) n) 48 ++ List.take (n - min (Vb.num y) n) l).length = n := fun l hl => by simp; omega
  have s2 := fun w => sBin15 sg (S x) (S y) n n w (small lx h2) (small ly h2) vx vy (sizeS lx) (sizeS ly) ky'
  rw [L_S, L_S] at s2
  by_cases hk : (L (S b)).all Vb.knB = true
  · have s1 := fun w => sBin15 sg (S a) (S b) n n w (small la h2) (small lb h2) va vb (sizeS la) (sizeS lb) hk
    rw [L_S] at hk
    obtain rfl := F2_eq hb hk
    rw [L_S, L_S] at s1
    exact ⟨_, _, F2_app (F2_rep (.inl ⟨rfl, rfl⟩) _) (F2_take ha _), by rw [ln a la]; exact h1, by rw [ln a la]; exact h2, s1, s2⟩
  · have kk : (List.replicate (min (Vb.num y) n) 48 ++ List.take (n - min (Vb.num y) n) x).all Vb.knB = true := F2_kn (F2_app (F2_rep (.inl ⟨rfl, rfl⟩) _) (F2_take ha _))
    exact ⟨_, _, F2_x kk n (ln x lx), by rw [List.length_replicate]; exact h1, by rw [List.length_replicate]; exact h2, fun w => sBin15u sg (S a) (S b) n n w (small la h2) (small lb h2) va vb (sizeS la) (sizeS lb) (by simpa using hk), s2⟩
theorem unk16 {a b x y : List UInt8} {n : Nat} (sg : Bool) (ha : F2 a x) (hb : F2 b y) (la : a.length = n) (lb : b.length = n) (h1 : 1 ≤ n) (h2 : n ≤ 64) : UnkB 16 sg a b x y := by
  have va := ok_S (F2_v ha) (by omega) (by omega)
  have vb := ok_S (F2_v hb) (by omega) (by omega)
  have lx : x.length = n := by rw [← F2_len ha]; exact la
  have ly : y.length = n := by rw [← F2_len hb]; exact lb
  have kx := F2_kn ha
  have ky := F2_kn hb
  have vx := ok_S (knV kx) (by omega) (by omega)
  have vy := ok_S (knV ky) (by omega) (by omega)
  have kx' : (L (S x)).all Vb.knB = true := by rw [L_S]; exact kx
  have ky' : (L (S y)).all Vb.knB = true := by rw [L_S]; exact ky
  have ln : ∀ l : List UInt8, l.length = n → (List.replicate (min (Vb.num y) n) (l.headD 0) ++ List.take (n - min (Vb.num y) n) l).length = n := fun l hl => by simp; omega
  have s2 := fun w => sBin16 sg (S x) (S y) n n w (small lx h2) (small ly h2) vx vy (sizeS lx) (sizeS ly) ky'
  rw [L_S, L_S] at s2
  by_cases hk : (L (S b)).all Vb.knB = true
  · have s1 := fun w => sBin16 sg (S a) (S b) n n w (small la h2) (small lb h2) va vb (sizeS la) (sizeS lb) hk
    rw [L_S] at hk
    obtain rfl := F2_eq hb hk
    rw [L_S, L_S] at s1
    exact ⟨_, _, F2_app (F2_rep (F2_head ha (by omega)) _) (F2_take ha _), by rw [ln a la]; exact h1, by rw [ln a la]; exact h2, s1, s2⟩
  · have kk : (List.replicate (min (Vb.num y) n) (x.headD 0) ++ List.take (n - min (Vb.num y) n) x).all Vb.knB = true := F2_kn (F2_app (F2_rep (F2_head ha (by omega)) _) (F2_take ha _))
    exact ⟨_, _, F2_x kk n (ln x lx), by rw [List.length_replicate]; exact h1, by rw [List.length_replicate]; exact h2, fun w => sBin16u sg (S a) (S b) n n w (small la h2) (small lb h2) va vb (sizeS la) (sizeS lb) (by simpa using hk), s2⟩
/-- The known letters of R are those of R'. -/
def Tell (R R' : List UInt8) : Prop := R.length = R'.length ∧ ∀ i (hi : i < R.length) (hj : i < R'.length), Vb.knB R[i] = true → R[i] = R'[i]
theorem Tell_of {R R' : List UInt8} (h : F2 R R') : Tell R R' := ⟨F2_len h, F2_tell h⟩
theorem Tell_x (n : Nat) {R : List UInt8} (h : R.length = n) : Tell (List.replicate n 120) R := by
  refine ⟨by simp [h], fun i hi hj hk => ?_⟩
  rw [List.getElem_replicate] at hk
  exact absurd hk (by decide)
/-- What Binary tells of a and b and of x and y. -/
def UnkT (op : Int) (sg : Bool) (a b x y : List UInt8) : Prop := ∃ R R' : List UInt8, Tell R R' ∧ 1 ≤ R.length ∧ R.length ≤ 64 ∧
  (∀ w, Calls Try.prog 19 #[.int .i64 op, .bool sg, .string (S a), .string (S b)] w fun e w' => e = .returned (.string (S R)) ∧ Below w.heap.size w w') ∧
  (∀ w, Calls Try.prog 19 #[.int .i64 op, .bool sg, .string (S x), .string (S y)] w fun e w' => e = .returned (.string (S R')) ∧ Below w.heap.size w w') ∧
  (∀ w, Calls Try.prog 28 #[.int .i64 op, .bool sg, .string (S x), .string (S y)] w fun e w' => e = .returned (.string (S R')) ∧ Below w.heap.size w w')
theorem UnkT_of {op : Int} {sg : Bool} {a b x y : List UInt8} {n : Nat} (h : UnkB op sg a b x y) (la : a.length = n) (lb : b.length = n) (lx : x.length = n) (ly : y.length = n) (h2 : n ≤ 64) : UnkT op sg a b x y := by
  obtain ⟨R, R', f, l1, l2, c1, c2⟩ := h
  exact ⟨R, R', Tell_of f, l1, l2, iBinIs (small la h2) (small lb h2) c1, iBinIs (small lx h2) (small ly h2) c2, c2⟩
theorem unkZ (op : Int) {a b x y : List UInt8} {n : Nat} (sg : Bool) (ha : F2 a x) (hb : F2 b y) (la : a.length = n) (lb : b.length = n) (h1 : 1 ≤ n) (h2 : n ≤ 64) (hz : Vb.num y = 0)
    (hu : ∀ w, ((L (S a)).all Vb.knB && (L (S b)).all Vb.knB) = false → Calls Try.prog 28 #[.int .i64 op, .bool sg, .string (S a), .string (S b)] w fun e w' => e = .returned (.string (S (List.replicate n 120))) ∧ Below w.heap.size w w')
    (hx : ∀ w, Calls Try.prog 28 #[.int .i64 op, .bool sg, .string (S x), .string (S y)] w fun e w' => e = .returned (.string (S (List.replicate n 120))) ∧ Below w.heap.size w w') : UnkT op sg a b x y := by
  have lx : x.length = n := by rw [← F2_len ha]; exact la
  have ly : y.length = n := by rw [← F2_len hb]; exact lb
  refine ⟨_, _, Tell_x n (List.length_replicate ..), by rw [List.length_replicate]; exact h1, by rw [List.length_replicate]; exact h2, iBinIs (small la h2) (small lb h2) (fun w => ?_), iBinIs (small lx h2) (small ly h2) hx, hx⟩
  by_cases hk : ((L (S a)).all Vb.knB && (L (S b)).all Vb.knB) = true
  · rw [L_S, L_S, Bool.and_eq_true] at hk
    obtain rfl := F2_eq ha hk.1
    obtain rfl := F2_eq hb hk.2
    exact hx w
  · exact hu w (by simpa using hk)
theorem unkAll (op : Int) {a b x y : List UInt8} {n : Nat} (sg : Bool) (ha : F2 a x) (hb : F2 b y) (la : a.length = n) (lb : b.length = n) (h1 : 1 ≤ n) (h2 : n ≤ 64) (o1 : 1 ≤ op) (o2 : op ≤ 18) (o3 : op ≠ 11) : UnkT op sg a b x y := by
  have lx : x.length = n := by rw [← F2_len ha]; exact la
  have ly : y.length = n := by rw [← F2_len hb]; exact lb
  have kx' : (L (S x)).all Vb.knB = true := by rw [L_S]; exact F2_kn ha
  have ky' : (L (S y)).all Vb.knB = true := by rw [L_S]; exact F2_kn hb
  have va := ok_S (F2_v ha) (by omega) (by omega)
  have vb := ok_S (F2_v hb) (by omega) (by omega)
  have vx := ok_S (knV (F2_kn ha)) (by omega) (by omega)
  have vy := ok_S (knV (F2_kn hb)) (by omega) (by omega)
  have : op = 1 ∨ op = 2 ∨ op = 3 ∨ op = 4 ∨ op = 5 ∨ op = 6 ∨ op = 7 ∨ op = 8 ∨ op = 9 ∨ op = 10 ∨ op = 12 ∨ op = 13 ∨ op = 14 ∨ op = 15 ∨ op = 16 ∨ op = 17 ∨ op = 18 := by omega
  rcases this with rfl | rfl | rfl | rfl | rfl | rfl | rfl | rfl | rfl | rfl | rfl | rfl | rfl | rfl | rfl | rfl | rfl
  · exact UnkT_of (unk1 sg ha hb la lb h1 h2) la lb lx ly h2
  · exact UnkT_of (unk2 sg ha hb la lb h1 h2) la lb lx ly h2
  · exact UnkT_of (unk3 sg ha hb la lb h1 h2) la lb lx ly h2
  · exact UnkT_of (unk4 sg ha hb la lb h1 h2) la lb lx ly h2
  · exact UnkT_of (unk5 sg ha hb la lb h1 h2) la lb lx ly h2
  · exact UnkT_of (unk6 sg ha hb la lb h1 h2) la lb lx ly h2
  · by_cases hz : Vb.num y = 0
    · exact unkZ 7 sg ha hb la lb h1 h2 hz (fun w hk => sBin7u sg (S a) (S b) n w (small la h2) (small lb h2) va vb (sizeS la) (sizeS lb) hk) (fun w => sBin7z sg (S x) (S y) n w (small lx h2) (small ly h2) vx vy (sizeS lx) (sizeS ly) kx' ky' (by rw [L_S]; exact hz))
    · exact UnkT_of (unk7 sg ha hb la lb h1 h2 (by omega)) la lb lx ly h2
  · by_cases hz : Vb.num y = 0
    · exact unkZ 8 sg ha hb la lb h1 h2 hz (fun w hk => sBin8u sg (S a) (S b) n w (small la h2) (small lb h2) va vb (sizeS la) (sizeS lb) hk) (fun w => sBin8z sg (S x) (S y) n w (small lx h2) (small ly h2) vx vy (sizeS lx) (sizeS ly) kx' ky' (by rw [L_S]; exact hz))
    · exact UnkT_of (unk8 sg ha hb la lb h1 h2 (by omega)) la lb lx ly h2
  · exact UnkT_of (unk9 sg ha hb la lb h1 h2) la lb lx ly h2
  · exact UnkT_of (unk10 sg ha hb la lb h1 h2) la lb lx ly h2
  · exact UnkT_of (unk12 sg ha hb la lb h1 h2) la lb lx ly h2
  · exact UnkT_of (unk13 sg ha hb la lb h1 h2) la lb lx ly h2
  · exact UnkT_of (unk14 sg ha hb la lb h1 h2) la lb lx ly h2
  · exact UnkT_of (unk15 sg ha hb la lb h1 h2) la lb lx ly h2
  · exact UnkT_of (unk16 sg ha hb la lb h1 h2) la lb lx ly h2
  · exact UnkT_of (unk17 sg ha hb la lb h1 h2) la lb lx ly h2
  · exact UnkT_of (unk18 sg ha hb la lb h1 h2) la lb lx ly h2
end Go.Proofs.Ytmbllgblbdfobaa
