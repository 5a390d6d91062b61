/- The law of Tokens: at every text both answer the same, and the answer owns its memory. -/
import Derived.Test.YtdgiidlaafbgcaaDoorTS3
namespace Go.Proofs.YtdgiidlaafbgcaaDoor
open Go.RowKit
set_option linter.unusedVariables false
theorem lTokensLong (s : ByteArray) (w : World) (hs : s.size ≤ maxLen) (h : 1048576 < s.size) :
    Calls Tryd.prog 3 #[.string s] w fun e w' => e = .returned (.bool true) ∧ Below w.heap.size w w' := by
  unfold maxLen at hs
  go_enter Tryd.func3, Tryd.ntmps3
  go_wp2
  go_ret
  exact ⟨rfl, brf _⟩
set_option maxRecDepth 100000 in
set_option maxHeartbeats 400000 in
theorem lTokens (s : ByteArray) (w : World) (hs : s.size ≤ 1048576) (hM : Mk w) (h0 : 0 < w.heap.size) :
    Calls Tryd.prog 3 #[.string s] w fun e w' => e = .returned (.bool true) ∧ Below w.heap.size w w' := by
  have hm : s.size ≤ maxLen := by unfold maxLen; omega
  have SP := hide (sTokensR s w hm)
  have IP := hide (fun v hM h0 => iTokensR s v hm hM h0)
  have hn := tkR_len s
  generalize tkR s = R at *
  obtain ⟨ts, code, pos⟩ := R
  have HM := hide hM
  clear hM
  go_enter Tryd.func3, Tryd.ntmps3
  have hn' : ts.length ≤ 20000 := hn
  go_wp2_with (first
    | (go_at_call 4; refine (unhide SP).mono ?_; rintro _ v1 ⟨⟨r1, rfl, ho1⟩, hb1⟩)
    | (go_at_call 5; have hz := hb5; have hb15 : Below w.heap.size w v5 := below_step ((btr (btr hb1 hb2) hb3).trans (hb4.mono hb1.size)) hb5; refine (unhide IP _ (Mk_later (unhide HM) h0 hb15) (Nat.lt_of_lt_of_le h0 hb15.size)).mono ?_; rintro _ v6 ⟨⟨r3, rfl, ho3⟩, hb6⟩)
    | (go_at_call 5; refine (unhide IP _ (Mk_later (unhide HM) h0 hb1) (Nat.lt_of_lt_of_le h0 hb1.size)).mono ?_; rintro _ v2 ⟨⟨r2, rfl, ho2⟩, hb2⟩)
    | (go_at_call 6; have hz := hb6; refine (lEqV r3 r1 ts.length (oK ts) (oA ts) (oT ts) v6 hn' (OT_TV ho3) (TV_later (TV_later (OT_keep ho1 (Nat.le_refl _) (btr hb2 hb3) hb4) hb5) hb6)).mono ?_; rintro _ v7 ⟨rfl, hb7⟩)
    | (go_at_call 6; refine (lEqV r2 r1 ts.length (oK ts) (oA ts) (oT ts) v2 hn' (OT_TV ho2) (TV_later (OT_TV ho1) hb2)).mono ?_; rintro _ v3 ⟨rfl, hb3⟩)
    | (go_at_call 7; refine (lMarkV r2 ts.length v1.heap.size v3 hn' (Nat.le_trans hb2.size hb3.size) (TW_later (OT_TW ho2) hb3)).mono ?_; rintro _ v4 ⟨rfl, hb4, tv4⟩)
    | (go_at_call 8; have hz := hb7; refine (lHeldV r2 ts.length v7 hn' (TV_later (TV_later (TV_later tv4 hb5) hb6) hb7)).mono ?_; rintro _ v8 ⟨rfl, hb8⟩)
    | (go_at_call 8; refine (lHeldV r2 ts.length v4 hn' tv4).mono ?_; rintro _ v5 ⟨rfl, hb5⟩))
  go_ret
  exact ⟨rfl, below_step (below_step (below_step hb15 hb6) hb7) hb8⟩
end Go.Proofs.YtdgiidlaafbgcaaDoor
