/- Plain facts: the parity of a text's ones; the negative; what no bit tells. -/
import Derived.Test.YtmbllgblbdfobaaUM
import Derived.Test.YtmbllgblbdfobaaU4
namespace Go.Proofs.Ytmbllgblbdfobaa
open Vb
theorem xr_shift (f g : Nat → Bool) (n : Nat) (h : ∀ i, i < n → f (i + 1) = g i) : xr f (n + 1) = (f 0 ^^ xr g n) := by
  induction n with
  | zero => simp [xr]
  | succ n ih => rw [xr, ih (fun i hi => h i (by omega)), xr, h n (by omega), Bool.xor_assoc]
theorem xr_false (n : Nat) : xr (fun _ => false) n = false := by
  induction n with
  | zero => rfl
  | succ n ih => rw [xr, ih]; rfl
theorem fold_xor (l : List UInt8) (b : Bool) : l.foldl (fun a x => a ^^ oneB x) b = (b ^^ l.foldl (fun a x => a ^^ oneB x) false) := by
  induction l generalizing b with
  | nil => simp
  | cons c t ih => rw [List.foldl_cons, List.foldl_cons, ih (b ^^ oneB c), ih (false ^^ oneB c)]; simp
theorem xr_list (r : List UInt8) (n : Nat) (hn : r.length ≤ n) : xr (fun i => ((r[i]?).map oneB).getD false) n = r.reverse.foldl (fun a x => a ^^ oneB x) false := by
  induction r generalizing n with
  | nil => simp only [List.getElem?_nil, Option.map_none, Option.getD_none]; exact xr_false n
  | cons c t ih =>
    cases n with
    | zero => simp at hn
    | succ n =>
      rw [xr_shift _ (fun i => ((t[i]?).map oneB).getD false) n (fun i _ => by simp), ih n (by simpa using hn), List.reverse_cons, List.foldl_append]
      simp [Bool.xor_comm]
theorem odd_list {l : List UInt8} (hk : l.all knB = true) (h2 : l.length ≤ 64) : xr (fun i => (wh l).getLsbD i) 64 = l.foldl (fun a x => a ^^ oneB x) false := by
  have := xr_list l.reverse 64 (by simpa using h2)
  rw [List.reverse_reverse] at this
  rw [← this]
  apply xr_congr
  intro i hi
  rw [wh_num hk, BitVec.getLsbD_ofNat, testBit_num]
  simp [hi, rat]
theorem txt_x (n : Nat) : txt n 0#64 0#64 = List.replicate n 120 := by
  induction n with
  | zero => rfl
  | succ n ih => rw [txt, ih, List.replicate_succ]; simp [letter]
theorem odd_txt {l : List UInt8} (hv : l.all isV = true) (h1 : 1 ≤ l.length) (h2 : l.length ≤ 64) :
    txt 1 (if kn l = ones l.length then 1#64 else 0#64) (if kn l = ones l.length then BitVec.ofInt 64 (bits .and .i64 (RowKit.wrap64 (U (popc (wh l)))) 127) &&& ones 1 else 0#64) = [foldB xorB l] := by
  rw [xor_odd hv h1]
  by_cases hk : l.all knB = true
  · have hk' := (kn_ones h2).2 hk
    rw [if_pos hk', if_pos hk', if_pos hk]
    show letter _ _ :: txt 0 _ _ = _
    rw [BitVec.getLsbD_and, ans_odd, odd_list hk h2, getLsbD_ones]
    generalize l.foldl (fun a x => a ^^ oneB x) false = b
    cases b <;> rfl
  · have hk' : ¬ kn l = ones l.length := fun h => hk ((kn_ones h2).1 h)
    rw [if_neg hk', if_neg hk', if_neg hk]; rfl
theorem neg_txt {l : List UInt8} (h2 : l.length ≤ 64) :
    txt l.length (rkK l.length l.length (ones l.length) (kn l)) (rkH l.length l.length (ones l.length) (kn l) (0#64 - wh l)) = if l.all knB = true then nTxt l.length (2 ^ l.length - num l) else List.replicate l.length 120 := by
  unfold rkK rkH
  by_cases hk : l.all knB = true
  · have hk' := (kn_ones h2).2 hk
    rw [if_pos ⟨rfl, hk'⟩, if_pos ⟨rfl, hk'⟩, if_pos hk, num_txt _ _ h2]
    apply nTxt_congr
    rw [BitVec.toNat_sub, wh_toNat hk h2]
    have hlt := num_lt l
    have h64 : 2 ^ 64 = 2 ^ l.length * 2 ^ (64 - l.length) := by rw [← Nat.pow_add]; congr 1; omega
    have hle : 2 ^ l.length ≤ 2 ^ 64 := Nat.pow_le_pow_right (by omega) h2
    have e : (2 ^ 64 - num l + (0#64).toNat) % 2 ^ 64 % 2 ^ l.length = (2 ^ 64 - num l) % 2 ^ l.length := by
      rw [show (0#64).toNat = 0 from rfl, Nat.add_zero, Nat.mod_mod_of_dvd _ ⟨2 ^ (64 - l.length), h64⟩]
    rw [e]
    have e2 : 2 ^ 64 - num l = (2 ^ l.length - num l) + 2 ^ l.length * (2 ^ (64 - l.length) - 1) := by
      rw [Nat.mul_sub, ← h64, Nat.mul_one]; omega
    rw [e2, Nat.add_mul_mod_self_left]
  · have hk' : ¬ kn l = ones l.length := fun h => hk ((kn_ones h2).1 h)
    rw [if_neg (fun h => hk' h.2), if_neg (fun h => hk' h.2), if_neg hk, txt_x]
end Go.Proofs.Ytmbllgblbdfobaa
