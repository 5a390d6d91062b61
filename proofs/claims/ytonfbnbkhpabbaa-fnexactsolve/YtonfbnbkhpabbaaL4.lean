/- The law. -/
import Derived.Test.YtonfbnbkhpabbaaL1
import Derived.Test.YtonfbnbkhpabbaaDS
import Derived.Test.YtonfbnbkhpabbaaDT
namespace Go.Proofs.Ytonfbnbkhpabbaa
open Go Go.RowKit Gs
set_option linter.unusedVariables false
set_option linter.unusedSimpArgs false
set_option maxRecDepth 100000
theorem SA.both {B : Nat} {vars : Int} {Cl : List (List Int)} {work kd wk cd : Int} {mo : List Int} {T : List (List Int)} (hs : SolR vars Cl work kd mo T wk cd) {e : Ending} {W : World} (h : PS B vars Cl work e W) : ∃ mv tv, e = .returned (.tuple #[.agg #[.int .i64 kd, mv, tv, .int .i64 wk], .int .i64 cd]) ∧ HA B W mv tv mo T := by
  obtain ⟨kd', mo', T', wk', cd', mv, tv, vals, E, rfl, h2, h3, h4, h5, h6, h7, h8, h9, h10⟩ := h
  obtain ⟨rfl, rfl, rfl, rfl, rfl⟩ := h2.one hs
  refine ⟨mv, tv, rfl, ?_⟩
  rcases h10 with e | e
  · subst e
    obtain ⟨a, c, hm⟩ := h3.shape
    exact .inl ⟨rfl, ⟨a, c, hm⟩, ⟨E, h6, vals, h4, h5⟩, h8, h9⟩
  · subst e
    obtain ⟨a, c, ht⟩ := own_shape h4
    exact .inr ⟨rfl, ⟨a, c, ht⟩, h3, h7⟩
def GG (Z : World) (BA b11 : Nat) (ob : Array Value) (mv tv : Value) (mo : List Int) (T : List (List Int)) (U : World) : Prop := Below Z.heap.size Z U ∧ HA BA U mv tv mo T ∧ U.heap[b11]? = some (.cells ob 26) ∧ BA ≤ U.heap.size
section
variable {Z : World} {BA b11 : Nat} {ob : Array Value} {mv tv : Value} {mo : List Int} {T : List (List Int)} {U U' : World}
theorem GG.later (h : GG Z BA b11 ob mv tv mo T U) (hb : Below U.heap.size U U') : GG Z BA b11 ob mv tv mo T U' := ⟨btr h.1 hb, h.2.1.later hb, (hb.block _ (heap_lt h.2.2.1)).trans h.2.2.1, Nat.le_trans h.2.2.2 hb.size⟩
theorem GG.mj (h : GG Z BA b11 ob mv tv mo T U) {E : Nat} {V : World} (hm : MJ Z.heap.size E V U U') (h1 : E ≤ BA) (h2 : E ≤ b11) : GG Z BA b11 ob mv tv mo T U' := ⟨h.1.trans hm.bel, h.2.1.keep (fun g hg _ => hm.blk g (.inr (Nat.le_trans h1 hg))) (by rw [hm.sz]; exact Nat.le_refl _), (hm.blk b11 (.inr h2)).trans h.2.2.1, by rw [hm.sz]; exact h.2.2.2⟩
theorem GG.mark (h : GG Z BA b11 ob mv tv mo T U) {mo' : List Int} {T' : List (List Int)} (h1 : HA BA U' mv tv mo' T') (h2 : Below BA U U') (h3 : KT U U') (h4 : Z.heap.size ≤ BA) : GG Z BA b11 ob mv tv mo' T' U' := ⟨h.1.trans (h2.mono h4), h1, h3 _ _ _ (by decide) h.2.2.1, Nat.le_trans h.2.2.2 h2.size⟩
end
theorem MJ.start {B : Nat} {V U : World} (hb : Below V.heap.size V U) (hn : NF B V) : MJ B V.heap.size V U U := ⟨fun b o z hc => ⟨z, cell_later hb hc⟩, fun b o v hv _ => cell_later hb hv, fun b o v hB hv => frozen_later hb hv (hn b o v hB hv), fun _ _ => rfl, rfl, Below.refl _ _⟩
set_option maxHeartbeats 16000000 in
theorem lSolve (vars work : Int) (cs : List (List Int)) (v : Value) (w : World) (hr : RS 1 RIntS w 0 cs v) :
    Calls Try.prog 3 #[.int .i64 vars, v, .int .i64 work] w fun e w' => e = .returned (.bool true) ∧ Below w.heap.size w w' := by
  have SZ : Hid (Calls Try.prog 4 #[v, .int .i64 1048576] w fun e w' => e = .returned (.int .i64 (szR (szL szIntS cs) 1048576)) ∧ Below w.heap.size w w') := hide (szIntSS_of cs v w 1048576 (Nat.le_refl _) hr)
  have TN : Hid (∀ W, Below w.heap.size w W → szL szIntS cs ≤ 1048576 → Calls Try.prog 6 #[v] W fun e w' => (∃ v', e = .returned v' ∧ RS 1 RIntS w' W.heap.size cs v') ∧ Below W.heap.size W w' ∧ NF W.heap.size w') := hide (fun W h hl => toIntSS_of cs v W hl (hr.later RIntS.keeps h))
  obtain ⟨a, c, rfl⟩ := hr.slice
  clear hr
  by_cases hs : szL szIntS cs ≤ 1048576
  · have hsz := szR_le (s := szL szIntS cs) (left := 1048576) (by omega)
    have hneg : decide ((((1048576 - szL szIntS cs : Nat) : Int)) < 0) = false := decide_eq_false (by omega)
    rw [hsz] at SZ
    generalize ((1048576 - szL szIntS cs : Nat) : Int) = lf at *
    have TN' := hide (fun W h => unhide TN W h hs)
    have HSL := hide hs
    clear TN hsz hs
    go_enter Try.func3, Try.ntmps3
    go_wp2_with fail
    refine (unhide SZ).mono ?_
    rintro e W1 ⟨rfl, hb1⟩
    have HB1 := hide hb1
    clear hb1
    go_wp2_with fail
    refine (unhide TN' _ (unhide HB1)).mono ?_
    rintro e W2 ⟨⟨v2, rfl, hr2⟩, hb2, _⟩
    have HB2 := hide (btr (unhide HB1) hb2)
    have HR2 := hide (RS.low RIntS.lowers (Nat.zero_le _) hr2)
    obtain ⟨a2, c2, rfl⟩ := hr2.slice
    clear hb2 hr2 HB1
    go_wp2_with fail
    refine (sSolve vars work cs _ W2 (unhide HR2)).mono ?_
    rintro e W3 ⟨⟨kd, mo, T, wk, cd, mv0, tv0, rfl, hsol, hm0, ht0⟩, hb3⟩
    obtain ⟨m0a, m0c, rfl⟩ := hm0.slice
    obtain ⟨t0a, t0c, rfl⟩ := ht0.slice
    have HSOL := hide hsol
    have HB3 := hide (btr (unhide HB2) hb3)
    have HM0 := hide hm0
    have HT0 := hide ht0
    clear hsol hb3 hm0 ht0 HB2 HR2
    go_wp2_with fail
    obtain ⟨Z, hZ⟩ : ∃ Z, Z = W3.alloc (.cells #[.int .i64 kd, .slice m0a mo.length m0c, .slice t0a T.length t0c, .int .i64 wk] 26) := ⟨_, rfl⟩
    have HZ : Hid (∀ U, Below Z.heap.size Z U → Below w.heap.size w U ∧ (RS 1 RInt U 0 mo (.slice m0a mo.length m0c) ∧ RS 1 RIntS U 0 T (.slice t0a T.length t0c)) ∧ U.heap[W3.heap.size]? = some (.cells #[.int .i64 kd, .slice m0a mo.length m0c, .slice t0a T.length t0c, .int .i64 wk] 26)) := hide (fun U hU => by
      have hb : Below W3.heap.size W3 U := btr (by rw [hZ]; exact bal (brf W3) _) hU
      have hx : Z.heap[W3.heap.size]? = some (.cells #[.int .i64 kd, .slice m0a mo.length m0c, .slice t0a T.length t0c, .int .i64 wk] 26) := by rw [hZ]; exact heap_new _ _
      exact ⟨btr (unhide HB3) hb, ⟨(unhide HM0).later RInt.keeps hb, (unhide HT0).later RIntS.keeps hb⟩, (hU.block _ (heap_lt hx)).trans hx⟩)
    rw [← hZ]
    clear hZ HM0 HT0 HB3
    refine (unhide TN' Z (unhide HZ Z (brf Z)).1).mono ?_
    rintro e W4 ⟨⟨v4, rfl, hr4⟩, hb4, hnf4⟩
    have HB4 := hide hb4
    have HR4 := hide hr4
    have HNF := hide hnf4
    obtain ⟨a4, c4, rfl⟩ := hr4.slice
    clear hb4 hr4 hnf4
    go_wp2_with fail
    refine (iSolve vars work cs _ W4 (RS.low RIntS.lowers (Nat.zero_le _) (unhide HR4))).mono ?_
    rintro e W5 ⟨hps, hb5⟩
    obtain ⟨mv, tv, rfl, hha⟩ := SA.both (unhide HSOL) hps
    obtain ⟨⟨ma, mc, rfl⟩, ta, tc, rfl⟩ := hha.shape
    obtain ⟨Y, hY⟩ : ∃ Y, Y = W5.alloc (.cells #[.int .i64 kd, .slice ma mo.length mc, .slice ta T.length tc, .int .i64 wk] 26) := ⟨_, rfl⟩
    have hb4Y : Below W4.heap.size W4 Y := btr hb5 (by rw [hY]; exact bal (brf W5) _)
    have hGY : GG Z W4.heap.size W5.heap.size #[.int .i64 kd, .slice ma mo.length mc, .slice ta T.length tc, .int .i64 wk] (.slice ma mo.length mc) (.slice ta T.length tc) mo T Y := ⟨btr (unhide HB4) hb4Y, hha.later (by rw [hY]; exact bal (brf W5) _), by rw [hY]; exact heap_new _ _, hb4Y.size⟩
    have hha' := (hGY.2.1).read
    have HE11 : Hid (W4.heap.size ≤ W5.heap.size) := hide hb5.size
    have HZ4 : Hid (Z.heap.size ≤ W4.heap.size) := hide (unhide HB4).size
    have HB4Y := hide hb4Y
    have HG := hide hGY
    have hx8 := (unhide HZ Y hGY.1).2.2
    have hx11 := hGY.2.2.1
    have y80 := resCell hx8 0 rfl
    have y81 := resCell hx8 1 rfl
    have y82 := resCell hx8 2 rfl
    have y83 := resCell hx8 3 rfl
    have y110 := resCell hx11 0 rfl
    have y111 := resCell hx11 1 rfl
    have y112 := resCell hx11 2 rfl
    have y113 := resCell hx11 3 rfl
    have HEQ := hide (eqSat kd wk mo T _ _ _ _ Y hha'.1 (unhide HZ Y hGY.1).2.1.1 hha'.2 (unhide HZ Y hGY.1).2.1.2)
    have hne : (cd != cd) = false := by simp
    have HY := hide hY
    rw [hY] at y80 y81 y82 y83 y110 y111 y112 y113 HEQ
    clear hps hb5 hha hha' hb4Y hGY hx8 hx11 hY
    go_wp2_with fail
    refine (unhide HEQ).mono ?_
    rintro e W6 ⟨rfl, hb6⟩
    rw [← unhide HY] at hb6
    have HG6 := hide ((unhide HG).later hb6)
    have HB46 := hide (btr (unhide HB4Y) hb6)
    clear hb6 HEQ HG HB4Y HY y80 y81 y82 y83 y110 y111 y112 y113
    go_wp2_with fail
    refine (unhide TN' W6 (unhide HZ W6 (unhide HG6).1).1).mono ?_
    rintro e W7 ⟨⟨v7, rfl, hr7⟩, hb7, _⟩
    have HG7 := hide ((unhide HG6).later hb7)
    have HB47 := hide (btr (unhide HB46) hb7)
    have HR7 := hide (RS.low RIntS.lowers (Nat.zero_le _) hr7)
    obtain ⟨a7, c7, rfl⟩ := hr7.slice
    clear hb7 hr7 HG6 HB46
    go_wp2_with fail
    refine (eqIntSS_of cs _ _ W7 (RS.low RIntS.lowers (Nat.zero_le _) ((unhide HR4).later RIntS.keeps (unhide HB47))) (unhide HR7)).mono ?_
    rintro e W8 ⟨rfl, hb8⟩
    have HG8 := hide ((unhide HG7).later hb8)
    have HB48 := hide (btr (unhide HB47) hb8)
    clear hb8 HG7 HB47 HR7
    go_wp2_with fail
    refine (mkSS cs _ rfl (unhide HR4) (unhide HSL) (MJ.start (unhide HB48) (unhide HNF))).mono ?_
    rintro e W9 ⟨⟨q, rfl, hq⟩, hmj⟩
    have hG9 := (unhide HG8).mj hmj (Nat.le_refl _) (unhide HE11)
    have HG9 := hide hG9
    have q0 : decide ((q : Int) < 0) = false := decide_eq_false (by omega)
    have hz9 := unhide HZ W9 hG9.1
    have hx8 := hz9.2.2
    have hx11 := hG9.2.2.1
    have y80 := resCell hx8 0 rfl
    have y81 := resCell hx8 1 rfl
    have y82 := resCell hx8 2 rfl
    have y83 := resCell hx8 3 rfl
    have y110 := resCell hx11 0 rfl
    have y111 := resCell hx11 1 rfl
    have y112 := resCell hx11 2 rfl
    have y113 := resCell hx11 3 rfl
    have HEQ := hide (eqSat kd wk mo T _ _ _ _ W9 hG9.2.1.read.1 hz9.2.1.1 hG9.2.1.read.2 hz9.2.1.2)
    clear hmj hG9 hz9 hx8 hx11 HG8 HB48 hq HR4 HNF
    go_wp2_with fail
    refine (unhide HEQ).mono ?_
    rintro e W10 ⟨rfl, hb10⟩
    have hG10 := (unhide HG9).later hb10
    have HG10 := hide hG10
    have hx11 := hG10.2.2.1
    clear y80 y81 y82 y83 y110 y111 y112 y113
    have y110 := resCell hx11 0 rfl
    have y111 := resCell hx11 1 rfl
    have y112 := resCell hx11 2 rfl
    have y113 := resCell hx11 3 rfl
    have HMK := hide (markSat kd wk mo T _ _ W10 hG10.2.2.2 hG10.2.1)
    clear hb10 hG10 hx11 HEQ HG9
    go_wp2_with fail
    refine (unhide HMK).mono ?_
    rintro e W11 ⟨rfl, hh11, hb11, hk11⟩
    have hG11 := (unhide HG10).mark hh11 hb11 hk11 (unhide HZ4)
    have HG11 := hide hG11
    have hx11 := hG11.2.2.1
    clear y110 y111 y112 y113
    have y110 := resCell hx11 0 rfl
    have y111 := resCell hx11 1 rfl
    have y112 := resCell hx11 2 rfl
    have y113 := resCell hx11 3 rfl
    have HHE := hide (heldSat kd wk mo T _ _ W11 hG11.2.1)
    obtain ⟨tt, htt⟩ : ∃ tt, tt = totA mo T := ⟨_, rfl⟩
    rw [← htt] at HHE ⊢
    have t0 : decide ((tt : Int) < 0) = false := decide_eq_false (by omega)
    have t1 : ((tt : Int) != (tt : Int)) = false := by simp
    have HTT := hide htt
    clear hh11 hb11 hk11 hG11 hx11 HMK HG10 htt
    go_wp2_with fail
    refine (unhide HHE).mono ?_
    rintro e W12 ⟨rfl, hb12⟩
    have HG12 := hide ((unhide HG11).later hb12)
    clear hb12 HHE HG11 y110 y111 y112 y113
    go_wp2_with fail
    refine (unhide TN' W12 (unhide HZ W12 (unhide HG12).1).1).mono ?_
    rintro e W13 ⟨⟨v13, rfl, hr13⟩, hb13, _⟩
    have HG13 := hide ((unhide HG12).later hb13)
    have HR13 := hide (RS.low RIntS.lowers (Nat.zero_le _) hr13)
    obtain ⟨a13, c13, rfl⟩ := hr13.slice
    clear hb13 hr13 HG12
    go_wp2_with fail
    refine (iSolve vars work cs _ W13 (unhide HR13)).mono ?_
    rintro e W14 ⟨hps, hb14⟩
    obtain ⟨nv, uv, rfl, hhb⟩ := SA.both (unhide HSOL) hps
    obtain ⟨⟨na, nc, rfl⟩, ua, uc, rfl⟩ := hhb.shape
    obtain ⟨X, hX⟩ : ∃ X, X = W14.alloc (.cells #[.int .i64 kd, .slice na mo.length nc, .slice ua T.length uc, .int .i64 wk] 26) := ⟨_, rfl⟩
    have hb14X : Below W14.heap.size W14 X := by rw [hX]; exact bal (brf W14) _
    have hGX := ((unhide HG13).later hb14).later hb14X
    have HGX := hide hGX
    have hzX := unhide HZ X hGX.1
    have hx8 := hzX.2.2
    have hx14 : X.heap[W14.heap.size]? = some (.cells #[.int .i64 kd, .slice na mo.length nc, .slice ua T.length uc, .int .i64 wk] 26) := by rw [hX]; exact heap_new _ _
    have y80 := resCell hx8 0 rfl
    have y81 := resCell hx8 1 rfl
    have y82 := resCell hx8 2 rfl
    have y83 := resCell hx8 3 rfl
    have y140 := resCell hx14 0 rfl
    have y141 := resCell hx14 1 rfl
    have y142 := resCell hx14 2 rfl
    have y143 := resCell hx14 3 rfl
    have HEQ := hide (eqSat kd wk mo T _ _ _ _ X (hhb.later hb14X).read.1 hzX.2.1.1 (hhb.later hb14X).read.2 hzX.2.1.2)
    have HXX := hide hX
    rw [hX] at y80 y81 y82 y83 y140 y141 y142 y143 HEQ
    clear hps hb14 hhb hb14X hGX hzX hx8 hx14 hX HG13 HR13
    go_wp2_with fail
    refine (unhide HEQ).mono ?_
    rintro e W15 ⟨rfl, hb15⟩
    rw [← unhide HXX] at hb15
    have hG15 := (unhide HGX).later hb15
    have HG15 := hide hG15
    have hx11 := hG15.2.2.1
    have y110 := resCell hx11 0 rfl
    have y111 := resCell hx11 1 rfl
    have y112 := resCell hx11 2 rfl
    have y113 := resCell hx11 3 rfl
    have HHE := hide (heldSat kd wk mo T _ _ W15 hG15.2.1)
    rw [← unhide HTT] at HHE
    clear hb15 hG15 hx11 HEQ HGX HXX y80 y81 y82 y83 y140 y141 y142 y143
    go_wp2_with fail
    refine (unhide HHE).mono ?_
    rintro e W16 ⟨rfl, hb16⟩
    have HBE := hide (unhide HZ W16 ((unhide HG15).later hb16).1).1
    clear hb16 HHE HG15 y110 y111 y112 y113
    go_wp2
    exact bodyPost_ret (v := .bool true) (by simp [results, Try.results3, go_sem]) rfl ⟨rfl, unhide HBE⟩
  · have hsz := szR_lt (s := szL szIntS cs) (left := 1048576) (by omega)
    rw [hsz] at SZ
    clear TN
    go_enter Try.func3, Try.ntmps3
    go_wp2_with fail
    refine (unhide SZ).mono ?_
    rintro e W1 ⟨rfl, hb1⟩
    have HB := hide hb1
    clear hb1
    go_wp2
    exact bodyPost_ret (v := .bool true) (by simp [results, Try.results3, go_sem]) rfl ⟨rfl, unhide HB⟩
end Go.Proofs.Ytonfbnbkhpabbaa
