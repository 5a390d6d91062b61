/- The map of the wires that are taken. -/
import Derived.Test.YtlldfaniddbjaaaGreatDoorRI4
import Derived.Maps.OwnSet
import Derived.DeepKeys5
namespace Go.Proofs.YtlldfaniddbjaaaGreatDoor
open Go Go.RowKit Gs Go.Maps Go.WideMaps
set_option linter.unusedVariables false
set_option linter.unusedSimpArgs false
set_option maxRecDepth 100000
theorem laidOutZ : laidOutB Tryz.prog = true := by kernel_rfl
theorem law118 : Keyed Tryz.prog 118 := Keyed.of_law (deep_law_gate laidOutZ (by decide +kernel) (by decide +kernel) (by kernel_rfl) (by kernel_rfl))
def wireV (h : Hop) : Value := .agg #[.int .i64 h.x, .int .i64 h.y, .int .i64 h.d, .int .i64 h.t]
/-- A wire as a key. -/
def wkey (P : Program) (h : Hop) : Lit := (keyOf P 118 (wireV h)).getD (.bool false)
def WfH (h : Hop) : Prop := (Lit.int .i64 h.x).wf = true ∧ (Lit.int .i64 h.y).wf = true ∧ (Lit.int .i64 h.d).wf = true ∧ (Lit.int .i64 h.t).wf = true
theorem wf_there {W H T : Nat} {h : Hop} (hW : W ≤ 8) (hH : H ≤ 8) (hT : T ≤ 8) (ht : thH W H T h = true) : WfH h := by
  obtain ⟨hy, ht, hx, hd, _⟩ := there_parts ht
  exact ⟨WalkArith.wf_i64 (by omega), WalkArith.wf_i64 (by omega), WalkArith.wf_i64 (by omega), WalkArith.wf_i64 (by omega)⟩
theorem key_some {h : Hop} (hw : WfH h) : keyOf Tryz.prog 118 (wireV h) = some (wkey Tryz.prog h) := by
  have key0 : (keyOf Tryz.prog 118 (wireV h)).isSome = true := by
    obtain ⟨h1, h2, h3, h4⟩ := hw
    have hu : Tryz.prog.underlying 118 = some (.array 4 3) := by kernel_rfl
    have hk : Tryz.prog.keyType 118 = true := by kernel_rfl
    have hc : Tryz.prog.cellsOf 118 = 4 := by kernel_rfl
    have hc3 : Tryz.prog.cellsOf 3 = 1 := by kernel_rfl
    obtain ⟨m, hm⟩ : ∃ m, Tryz.prog.types.size = m + 1 := ⟨Tryz.prog.types.size - 1, by decide +kernel⟩
    have hl : ∀ z, (Lit.int .i64 z).wf = true → Tryz.prog.keyLits (m + 1) 3 [.int .i64 z] = some [.int .i64 z] := fun z hz => by
      unfold Program.keyLits
      simp [Tryz.underlying3, hz]
    unfold keyOf
    simp only [hu, hk]
    have hf : (wireV h).formed Tryz.prog 118 = true := by simp [wireV, Value.formed, hu, hc]
    rw [hf, hm]
    simp only [Bool.and_self, if_true]
    unfold Program.keyLits
    simp only [hu, wireV, Value.cells, hc, hc3]
    simp [show List.range 4 = [0, 1, 2, 3] from rfl, hl _ h1, hl _ h2, hl _ h3, hl _ h4]
  obtain ⟨l, hl⟩ := Option.isSome_iff_exists.1 key0
  unfold wkey
  rw [hl]; rfl
theorem wkey_inj {a b : Hop} (ha : WfH a) (hb : WfH b) (h : wkey Tryz.prog a = wkey Tryz.prog b) : sameW a b = true := by
  have e := law118.inj (key_some ha) (by rw [h]; exact key_some hb)
  rw [sameW_iff]
  unfold wireV at e
  injection e with e
  simpa using e
theorem wkey_same {a b : Hop} (h : sameW a b = true) : wkey Tryz.prog a = wkey Tryz.prog b := by
  obtain ⟨h1, h2, h3, h4⟩ := sameW_iff.1 h
  unfold wkey wireV; rw [h1, h2, h3, h4]
/-- The map holds just the wires that are taken. -/
def MW (V : World) (m : Nat) (seen : List Hop) : Prop := ∃ D : DataW Unit, V.ownsMap Tryz.prog 118 (plainElem Tryz.prog 3) m seen.length D ∧ Tidy D ∧ ∀ h, WfH h → Maps.has D (wkey Tryz.prog h) = seenB seen h
theorem MW.same {V V' : World} {m : Nat} {seen : List Hop} (h : MW V m seen) (hb : V'.heap[m]? = V.heap[m]?) : MW V' m seen := by
  obtain ⟨D, ⟨es, clock, h1, h2⟩, h3, h4⟩ := h
  exact ⟨D, ⟨es, clock, hb.trans h1, h2⟩, h3, h4⟩
theorem MW.later {V V' : World} {m : Nat} {seen : List Hop} (h : MW V m seen) (hb : Below V.heap.size V V') : MW V' m seen := by
  obtain ⟨D, ⟨es, clock, h1, h2⟩, h3, h4⟩ := h
  exact ⟨D, ⟨es, clock, (hb.block m (Array.getElem?_eq_some_iff.1 h1).1).trans h1, h2⟩, h3, h4⟩
theorem seenB_snoc (seen : List Hop) (a h : Hop) : seenB (seen ++ [a]) h = (seenB seen h || sameW a h) := by
  simp [seenB]
theorem MW.put {V' : World} {m : Nat} {seen : List Hop} {a : Hop} {D : DataW Unit} {e : DataW Unit} (ha : WfH a) (ht : Tidy D) (hh : ∀ h, WfH h → Maps.has D (wkey Tryz.prog h) = seenB seen h) (ho : V'.ownsMap Tryz.prog 118 (plainElem Tryz.prog 3) m (seen.length + 1) (D.put (wkey Tryz.prog a) e)) : MW V' m (seen ++ [a]) := by
  refine ⟨_, by rw [List.length_append]; exact ho, ht.put (law118.key (key_some ha)) e, fun h hw => ?_⟩
  rw [seenB_snoc]
  by_cases hs : sameW a h = true
  · rw [hs, Bool.or_true, ← wkey_same hs]
    exact has_put_same ht.isMap (law118.key (key_some ha)) ..
  · have : sameW a h = false := by simpa using hs
    rw [this, Bool.or_false, has_put_other (fun q => hs (wkey_inj ha hw q.symm))]
    exact hh h hw
theorem fx_grown {V V' : World} {m : Nat} (h : V.grownBy V' (some m)) : Fx m V V' :=
  ⟨h.os, h.tape, h.output, h.size, fun k hk hne => h.block k hk (fun e => by injection e with e; exact hne e)⟩
theorem MW.ne {W : World} {m : Nat} {seen : List Hop} (h : MW W m seen) {b o : Nat} {x : Value} (hc : W.cell? ⟨b, o, none⟩ = some x) : b ≠ m := by
  obtain ⟨D, ⟨es, clock, h1, _⟩, _⟩ := h
  intro e
  subst e
  simp [World.cell?, h1] at hc
/-- What lies in cells stays, where the map alone is written. -/
theorem MW.cells {W V : World} {m : Nat} {seen : List Hop} (h : MW W m seen) (hf : Fx m W V) : ∀ b o y, 0 ≤ b → W.cell? ⟨b, o, none⟩ = some y → V.cell? ⟨b, o, none⟩ = some y := fun b o y _ hc => hf.cell hc (h.ne hc)
theorem Gc.fx {W V : World} {m : Nat} {seen : List Hop} (h : Gc W) (hm : MW W m seen) (hf : Fx m W V) : Gc V := by
  obtain ⟨h0, h1, h2, h3, h4, h5, h6, h7⟩ := h
  have K := hm.cells hf
  exact ⟨K _ _ _ (Nat.zero_le _) h0, K _ _ _ (Nat.zero_le _) h1, K _ _ _ (Nat.zero_le _) h2, K _ _ _ (Nat.zero_le _) h3, K _ _ _ (Nat.zero_le _) h4, K _ _ _ (Nat.zero_le _) h5, K _ _ _ (Nat.zero_le _) h6, K _ _ _ (Nat.zero_le _) h7⟩
theorem MW.lt {W : World} {m : Nat} {seen : List Hop} (h : MW W m seen) : m < W.heap.size := by
  obtain ⟨D, ⟨es, clock, h1, _⟩, _⟩ := h
  exact (Array.getElem?_eq_some_iff.1 h1).1
end Go.Proofs.YtlldfaniddbjaaaGreatDoor
namespace Go.Proofs.YtlldfaniddbjaaaGreatDoor
open Go Go.RowKit Gs Go.Maps Go.WideMaps
set_option linter.unusedVariables false
set_option linter.unusedSimpArgs false
set_option maxRecDepth 100000
set_option maxHeartbeats 16000000
theorem zeroI (W : World) : (zeroValue 3).run Tryz.prog W = .ok (.int .i64 0) W := by go_simp
theorem hopB_fit {W H T : Nat} {own : Int × Int} {seen net : List Hop} {i : Nat} {h : Hop} (hi : net[i]? = some h) : hopB W H T own seen net i = (fitB W H T own net i h && !seenB (seen ++ net.take i) h) := by
  rw [hopB_at hi]
  unfold fitB
  cases thH W H T h <;> cases decide (-1 ≤ h.f) <;> cases decide (h.f < (i : Int)) <;> cases seenB (seen ++ net.take i) h <;> cases fromB own net h <;> rfl
theorem iHopsFit (s0 s1 s2 s3 s4 sS sL : Option Addr) (l0 l1 l2 l3 l4 lS lL c0 c1 c2 c3 c4 cS cL : Nat) (W H T P s m n nc : Nat) (nv : Option Addr) (st : List (Int × Int)) (o1 o2 : Int) (net seen : List Hop) (w : World) (hW : W ≤ 8) (hH : H ≤ 8) (hT : T ≤ 8) (hn : net.length = n) (hn2 : seen.length + n ≤ 1048576) (hlS : st.length = lS) (hlS2 : lS ≤ 1048576) (hss : s ≤ 1048576) (hs : st[s]? = some (o1, o2)) (hg : Gc w) (hst : RS 2 RSpot w 0 st (.slice sS lS cS)) (hnet : RS 5 RHop w 0 net (.slice nv n nc)) (hmw : MW w m seen) :
    Calls Tryz.prog 35 #[.agg #[.slice s0 l0 c0, .slice s1 l1 c1, .slice s2 l2 c2, .slice s3 l3 c3, .slice s4 l4 c4, .int .i64 (W : Int), .int .i64 (H : Int), .int .i64 (T : Int), .int .i64 (P : Int), .slice sS lS cS, .slice sL lL cL], .int .i64 (s : Int), .slice nv n nc, .map (some m)] w fun e w' => e = .returned (.bool (upB (hopB W H T (o1, o2) seen net) n)) ∧ Fx m w w' ∧ (upB (hopB W H T (o1, o2) seen net) n = true → MW w' m (seen ++ net)) := by
  have HNA := hide (hops_at hnet)
  have HG := hide hg
  have HST := hide hst
  have HNET := hide hnet
  have HMW := hide hmw
  have HN := hide hn
  have HSS := hide hs
  have HLS := hide hlS
  have HRB : Hid (upB (hopB W H T (o1, o2) seen net) n = upB (hopB W H T (o1, o2) seen net) n) := hide rfl
  obtain ⟨X, hX⟩ : ∃ X, X = w.alloc (.cells #[.slice s0 l0 c0, .slice s1 l1 c1, .slice s2 l2 c2, .slice s3 l3 c3, .slice s4 l4 c4, .int .i64 (W : Int), .int .i64 (H : Int), .int .i64 (T : Int), .int .i64 (P : Int), .slice sS lS cS, .slice sL lL cL] 81) := ⟨_, rfl⟩
  have HXB := hide (show Below w.heap.size w X by rw [hX]; exact bal (brf w) _)
  have HFL : Hid (∀ V, Fx m X V → V.cell? ⟨w.heap.size, 0, none⟩ = some (.slice s0 l0 c0) ∧ V.cell? ⟨w.heap.size, 1, none⟩ = some (.slice s1 l1 c1) ∧ V.cell? ⟨w.heap.size, 2, none⟩ = some (.slice s2 l2 c2) ∧ V.cell? ⟨w.heap.size, 3, none⟩ = some (.slice s3 l3 c3) ∧ V.cell? ⟨w.heap.size, 4, none⟩ = some (.slice s4 l4 c4) ∧ V.cell? ⟨w.heap.size, 5, none⟩ = some (.int .i64 (W : Int)) ∧ V.cell? ⟨w.heap.size, 6, none⟩ = some (.int .i64 (H : Int)) ∧ V.cell? ⟨w.heap.size, 7, none⟩ = some (.int .i64 (T : Int)) ∧ V.cell? ⟨w.heap.size, 8, none⟩ = some (.int .i64 (P : Int)) ∧ V.cell? ⟨w.heap.size, 9, none⟩ = some (.slice sS lS cS) ∧ V.cell? ⟨w.heap.size, 10, none⟩ = some (.slice sL lL cL)) := hide (fun V hV => by
    have hmx := hmw.lt
    have K := fun (i : Nat) z hz => hV.cell (new_cell (V := X) (W := w) (M := #[.slice s0 l0 c0, .slice s1 l1 c1, .slice s2 l2 c2, .slice s3 l3 c3, .slice s4 l4 c4, .int .i64 (W : Int), .int .i64 (H : Int), .int .i64 (T : Int), .int .i64 (P : Int), .slice sS lS cS, .slice sL lL cL]) (t := 81) (i := i) (x := z) (by rw [hX]; exact brf _) hz).1 (by omega)
    exact ⟨K 0 _ rfl, K 1 _ rfl, K 2 _ rfl, K 3 _ rfl, K 4 _ rfl, K 5 _ rfl, K 6 _ rfl, K 7 _ rfl, K 8 _ rfl, K 9 _ rfl, K 10 _ rfl⟩)
  have HXX := hide hX
  clear hg hst hnet hmw hn hs hlS hX
  go_enter Tryz.func35, Tryz.ntmps35
  go_wp2_with fail
  rw [← unhide HXX]
  go_loopw [15] (fun i wr => ∃ k : Nat, k ≤ n ∧ i = .int .i64 k ∧ upB (hopB W H T (o1, o2) seen net) k = true ∧ Fx m X wr ∧ MW wr m (seen ++ net.take k)) (fun i _ => n - (intOf i).toNat)
  case atStart => exact ⟨0, Nat.zero_le _, rfl, rfl, Fx.refl _ _, by rw [List.take_zero, List.append_nil]; exact (unhide HMW).later (unhide HXB)⟩
  case round =>
    obtain ⟨k, hk, rfl, hup, hf, hbr⟩ := hrel
    have HUP := hide hup
    have HF := hide hf
    have HMK := hide hbr
    have HFW := hide ((Fx.of (g := m) (unhide HXB)).trans hf)
    clear hup hf hbr
    by_cases hlt : k < n
    · obtain ⟨h, hx⟩ : ∃ h, net[k]? = some h := ⟨_, List.getElem?_eq_getElem (by rw [unhide HN]; exact hlt)⟩
      obtain ⟨nb, no, hnv, e0, e1, e2, e3, e4⟩ := unhide HNA k h hx
      subst hnv
      have CK := (unhide HMW).cells (unhide HFW)
      have k0 := CK _ _ _ (Nat.zero_le _) e0
      have k1 := CK _ _ _ (Nat.zero_le _) e1
      have k2 := CK _ _ _ (Nat.zero_le _) e2
      have k3 := CK _ _ _ (Nat.zero_le _) e3
      have k4 := CK _ _ _ (Nat.zero_le _) e4
      have hfit := hopB_fit (W := W) (H := H) (T := T) (own := (o1, o2)) (seen := seen) hx
      obtain ⟨fb, hfb⟩ : ∃ b, fitB W H T (o1, o2) net k h = b := ⟨_, rfl⟩
      obtain ⟨sb, hsb⟩ : ∃ b, seenB (seen ++ net.take k) h = b := ⟨_, rfl⟩
      rw [hfb, hsb] at hfit
      have HFIT := hide hfit
      have HIH : Hid (∀ V, Fx m wr V → Calls Tryz.prog 61 #[.agg #[.slice s0 l0 c0, .slice s1 l1 c1, .slice s2 l2 c2, .slice s3 l3 c3, .slice s4 l4 c4, .int .i64 (W : Int), .int .i64 (H : Int), .int .i64 (T : Int), .int .i64 (P : Int), .slice sS lS cS, .slice sL lL cL], .int .i64 (s : Int), .slice (some ⟨nb, no, none⟩) n nc, .int .i64 (k : Int)] V fun e w' => e = .returned (.bool fb) ∧ Below V.heap.size V w') := hide (fun V hV => by
        have hfv := (unhide HFW).trans hV
        have CV := (unhide HMW).cells hfv
        rw [← hfb]
        exact iHopFits s0 s1 s2 s3 s4 sS sL l0 l1 l2 l3 l4 lS lL c0 c1 c2 c3 c4 cS cL W H T P s k n nc (some ⟨nb, no, none⟩) st o1 o2 net h V hW hH (unhide HN) (by omega) hx (unhide HLS) hlS2 (unhide HSS) ((unhide HG).fx (unhide HMW) hfv) ((unhide HST).keep RSpot.keeps CV) ((unhide HNET).keep RHop.keeps CV) (fun j a hj ha => hopB_there (unhide HUP) hj ha))
      have HTHH : Hid (fb = true → thH W H T h = true) := hide (fun e => by
        rw [← hfb] at e
        unfold fitB at e
        rw [Bool.and_eq_true] at e
        exact e.1)
      have HSBB := hide hsb
      have HTK : Hid (net.take (k + 1) = net.take k ++ [h]) := hide (by rw [List.take_add_one, hx]; rfl)
      have HLEN := hide (show (seen ++ net.take k).length ≤ 1048576 by rw [List.length_append, List.length_take]; omega)
      have HRF : Hid (hopB W H T (o1, o2) seen net k = false → upB (hopB W H T (o1, o2) seen net) n = false) := hide (fun h => upB_false hlt h)
      have i1 : (0 : Int) ≤ (k : Int) := by omega
      have i2 : (k : Int) < (n : Int) := by omega
      obtain ⟨x, y, d, t, f⟩ := h
      clear hx e0 e1 e2 e3 e4 CK hfit hfb hsb
      obtain ⟨V1, hV1⟩ : ∃ V, V = wr.alloc (.cells #[.int .i64 x, .int .i64 y, .int .i64 d, .int .i64 t, .int .i64 f] 61) := ⟨_, rfl⟩
      have HV1 := hide hV1
      have HB1 := hide (show Below wr.heap.size wr V1 by rw [hV1]; exact bal (brf wr) _)
      obtain ⟨f0, f1, f2, f3, f4, f5, f6, f7, f8, f9, f10⟩ := unhide HFL V1 ((unhide HF).trans (Fx.of (unhide HB1)))
      rw [hV1] at f0 f1 f2 f3 f4 f5 f6 f7 f8 f9 f10
      clear hV1
      go_wp2_with fail
      rw [← unhide HV1]
      clear k0 k1 k2 k3 k4
      refine (unhide HIH V1 (Fx.of (unhide HB1))).mono ?_
      rintro e V2 ⟨rfl, hb2⟩
      have HB2 := hide (btr (unhide HB1) hb2)
      have HF2 := hide ((unhide HFW).trans (Fx.of (g := m) (unhide HB2)))
      have HHC : Hid (∀ V, Below V2.heap.size V2 V → V.cell? ⟨wr.heap.size, 0, none⟩ = some (.int .i64 x) ∧ V.cell? ⟨wr.heap.size, 1, none⟩ = some (.int .i64 y) ∧ V.cell? ⟨wr.heap.size, 2, none⟩ = some (.int .i64 d) ∧ V.cell? ⟨wr.heap.size, 3, none⟩ = some (.int .i64 t) ∧ V.cell? ⟨wr.heap.size, 4, none⟩ = some (.int .i64 f)) := hide (fun V hV => by
        have hh := btr hb2 hV
        rw [unhide HV1] at hh
        exact ⟨(new_cell hh rfl).1, (new_cell hh rfl).1, (new_cell hh rfl).1, (new_cell hh rfl).1, (new_cell hh rfl).1⟩)
      clear hb2 f0 f1 f2 f3 f4 f5 f6 f7 f8 f9 f10
      cases fb
      · have HR : Hid (upB (hopB W H T (o1, o2) seen net) n = false) := hide (unhide HRF (by rw [unhide HFIT]; rfl))
        go_wp2_with fail
        exact bodyPost_ret (v := .bool false) (by simp [results, Tryz.results35, go_sem]) rfl ⟨by rw [unhide HR], unhide HF2, fun h => by rw [unhide HR] at h; cases h⟩
      have hth := unhide HTHH rfl
      have HWF := hide (wf_there hW hH hT hth)
      have HM2 := hide ((unhide HMK).later (unhide HB2))
      obtain ⟨g0, g1, g2, g3, g4⟩ := unhide HHC V2 (brf _)
      clear hth HIH
      go_wp2_with fail
      refine (iWire x y d t f V2).mono ?_
      rintro e V3 ⟨rfl, hb3⟩
      have HB3 := hide hb3
      have HM3 := hide ((unhide HM2).later hb3)
      have HF3 := hide ((unhide HF2).trans (Fx.of (g := m) hb3))
      obtain ⟨D, hown, htidy, hhas⟩ := unhide HM3
      have hkey := key_some (unhide HWF)
      have hh := hhas ⟨x, y, d, t, f⟩ (unhide HWF)
      rw [unhide HSBB] at hh
      change keyOf Tryz.prog 118 (.agg #[.int .i64 x, .int .i64 y, .int .i64 d, .int .i64 t]) = some (wkey Tryz.prog ⟨x, y, d, t, f⟩) at hkey
      have HKEY := hide hkey
      have HHAS := hide hh
      have HHH := hide hhas
      have HTI := hide htidy
      have HOWN := hide hown
      clear hb3 g0 g1 g2 g3 g4 hown htidy hhas hkey hh
      cases sb
      case true =>
        have HR : Hid (upB (hopB W H T (o1, o2) seen net) n = false) := hide (unhide HRF (by rw [unhide HFIT]; rfl))
        go_wp2_with (first
          | (at_lookup; refine wpList_lookup_own_ok _ rfl _ _ 83 rfl 118 3 law118 Tryz.underlying83 _ (zeroI _) (.lit (.int .i64 0)) [] (plainElem_int Tryz.underlying3 (WalkArith.wf_i64 (by omega))) m (seen ++ net.take k).length _ rfl (unhide HOWN) _ _ rfl (unhide HKEY) ?_; intro v ps hv; rw [unhide HHAS])
          | fail)
        exact bodyPost_ret (v := .bool false) (by simp [results, Tryz.results35, go_sem]) rfl ⟨by rw [unhide HR], unhide HF3, fun h => by rw [unhide HR] at h; cases h⟩
      obtain ⟨g0, g1, g2, g3, g4⟩ := unhide HHC V3 (unhide HB3)
      go_wp2_with (first
        | (at_lookup; refine wpList_lookup_own_ok _ rfl _ _ 83 rfl 118 3 law118 Tryz.underlying83 _ (zeroI _) (.lit (.int .i64 0)) [] (plainElem_int Tryz.underlying3 (WalkArith.wf_i64 (by omega))) m (seen ++ net.take k).length _ rfl (unhide HOWN) _ _ rfl (unhide HKEY) ?_; intro v ps hv; rw [unhide HHAS])
        | fail)
      refine (iWire x y d t f V3).mono ?_
      rintro e V4 ⟨rfl, hb4⟩
      have HOW4 : Hid (V4.ownsMap Tryz.prog 118 (plainElem Tryz.prog 3) m (seen ++ net.take k).length D) := hide (by
        obtain ⟨es, clock, h1, h2⟩ := unhide HOWN
        exact ⟨es, clock, (hb4.block m (Array.getElem?_eq_some_iff.1 h1).1).trans h1, h2⟩)
      have HF4 := hide ((unhide HF3).trans (Fx.of (g := m) hb4))
      have HXF4 := hide (((unhide HF).trans (Fx.of (g := m) (unhide HB2))).trans ((Fx.of (g := m) (unhide HB3)).trans (Fx.of (g := m) hb4)))
      clear hb4 g0 g1 g2 g3 g4
      go_wp2_with (first
        | (at_mapUpdate; refine wpList_mapUpdate_own _ rfl _ _ _ 83 rfl 118 3 law118 Tryz.underlying83 _ m (seen ++ net.take k).length _ rfl (unhide HOW4) (by have := unhide HLEN; unfold maxLen; omega) _ _ _ rfl rfl (unhide HKEY) _ [] (plainElem_int Tryz.underlying3 (WalkArith.wf_i64 (by omega))) ?_; intro V5 hown5 hgrow5)
        | fail)
      have HM5 := hide (MW.put (unhide HWF) (unhide HTI) (unhide HHH) hown5)
      have HX5 := hide ((unhide HXF4).trans (fx_grown hgrow5))
      have HUP2 : Hid (upB (hopB W H T (o1, o2) seen net) (k + 1) = true) := hide (by rw [upB_succ, unhide HUP, unhide HFIT]; rfl)
      clear hown5 hgrow5
      go_roundw
      case rel => exact ⟨k + 1, by omega, by go_num, unhide HUP2, unhide HX5, by rw [unhide HTK, ← List.append_assoc]; exact unhide HM5⟩
      case measure => simp [intOf]; omega
    · obtain rfl : k = n := by omega
      have HME : Hid (MW wr m (seen ++ net)) := hide (by
        have h := unhide HMK
        rwa [List.take_of_length_le (by rw [unhide HN]; exact Nat.le_refl _)] at h)
      go_wp2_with fail
      exact bodyPost_ret (v := .bool true) (by simp [results, Tryz.results35, go_sem]) rfl ⟨by rw [unhide HUP], unhide HFW, fun _ => unhide HME⟩
end Go.Proofs.YtlldfaniddbjaaaGreatDoor
namespace Go.Proofs.YtlldfaniddbjaaaGreatDoor
open Go Go.RowKit Gs
set_option linter.unusedVariables false
set_option linter.unusedSimpArgs false
set_option maxRecDepth 100000
set_option maxHeartbeats 16000000
def FCT (gb g : Nat) (y : Hop) (ex ey s1 s2 : Int) (q : Bool) : Nat → Value → Prop
  | 0, v => v = .agg #[.int .i64 y.x, .int .i64 y.y, .int .i64 y.d, .int .i64 y.t, .int .i64 y.f]
  | 1, v => v = .agg #[.int .i64 ex, .int .i64 ey, .int .i64 y.t]
  | 2, v => v = .agg #[.int .i64 ex, .int .i64 ey]
  | 3, v => v = .agg #[.int .i64 s1, .int .i64 s2]
  | 4, v => v = .bool q
  | 5, v => v = .bool q
  | _, _ => True

theorem iEndsAt (gb : Nat) (y : Hop) (s1 s2 : Int) (w : World) (hd : 0 ≤ y.d ∧ y.d ≤ 3) (hs : SmH y) (hg : Gc w) (h0 : w.cell? ⟨gb, 0, none⟩ = some (.int .i64 s1)) (h1 : w.cell? ⟨gb, 1, none⟩ = some (.int .i64 s2)) :
    Calls Tryz.prog 72 #[.agg #[.int .i64 y.x, .int .i64 y.y, .int .i64 y.d, .int .i64 y.t, .int .i64 y.f], .pointer (some ⟨gb, 0, none⟩)] w fun e w' => e = .returned (.bool (decide (endH y = (s1, s2)))) ∧ Below w.heap.size w w' := by
  obtain ⟨q, hq⟩ : ∃ q, decide (endH y = (s1, s2)) = q := ⟨_, rfl⟩
  obtain ⟨ex, hex⟩ : ∃ z, endX y.x y.d = z := ⟨_, rfl⟩
  obtain ⟨ey, hey⟩ : ∃ z, endY y.y y.d = z := ⟨_, rfl⟩
  have HQ : Hid ((decide (ex = s1) && decide (ey = s2)) = q) := hide (by rw [← hq, ← hex, ← hey, ← Bool.decide_and]; exact decide_eq_decide.2 ⟨fun h => by unfold endH; rw [h.1, h.2], fun h => by unfold endH at h; injection h with h1 h2; exact ⟨h1, h2⟩⟩)
  rw [hq]
  obtain ⟨W0, hW0⟩ : ∃ W0, W0 = w.alloc (.cells #[.int .i64 y.x, .int .i64 y.y, .int .i64 y.d, .int .i64 y.t, .int .i64 y.f] 61) := ⟨_, rfl⟩
  have HB0 := hide (show Below w.heap.size w W0 by rw [hW0]; exact bal (brf w) _)
  have HH : Hid (∀ V, Below W0.heap.size W0 V → V.cell? ⟨w.heap.size, 0, none⟩ = some (.int .i64 y.x) ∧ V.cell? ⟨w.heap.size, 1, none⟩ = some (.int .i64 y.y) ∧ V.cell? ⟨w.heap.size, 2, none⟩ = some (.int .i64 y.d) ∧ V.cell? ⟨w.heap.size, 3, none⟩ = some (.int .i64 y.t) ∧ V.cell? ⟨w.heap.size, 4, none⟩ = some (.int .i64 y.f)) := hide (fun V hV => by
    rw [hW0] at hV
    exact ⟨(new_cell hV rfl).1, (new_cell hV rfl).1, (new_cell hV rfl).1, (new_cell hV rfl).1, (new_cell hV rfl).1⟩)
  have HG2 : Hid (∀ V, Below W0.heap.size W0 V → V.cell? ⟨gb, 0, none⟩ = some (.int .i64 s1) ∧ V.cell? ⟨gb, 1, none⟩ = some (.int .i64 s2)) := hide (fun V hV => ⟨cell_later (btr (unhide HB0) hV) h0, cell_later (btr (unhide HB0) hV) h1⟩)
  have HE : Hid (∀ V, Below W0.heap.size W0 V → Calls Tryz.prog 73 #[.agg #[.int .i64 y.x, .int .i64 y.y, .int .i64 y.d, .int .i64 y.t, .int .i64 y.f]] V fun e w' => e = .returned (.agg #[.int .i64 ex, .int .i64 ey, .int .i64 y.t]) ∧ Below V.heap.size V w') := hide (fun V hV => by
    have h := iEndJ y.x y.y y.d y.t y.f V hd hs.1 hs.2 (hg.later (btr (unhide HB0) hV))
    rw [hex, hey] at h; exact h)
  have HWW := hide hW0
  clear hq hex hey hg h0 h1 hW0
  go_enter Tryz.func72, Tryz.ntmps72
  go_wp2_with fail
  rw [← unhide HWW]
  refine wp_plan (GF (FCT gb w.heap.size y ex ey s1 s2 q)) (JB W0) (by kernel_rfl) 9 (by kernel_rfl) (by kernel_rfl) ?hj ?hs ?hf
  case hj => exact bdr (brf W0)
  case hs =>
    refine ⟨?_, ?_, ?_, ?_, ?_, ?_, trivial⟩
    · exact st_val rfl (fun l a V hp ha => ⟨.agg #[.int .i64 y.x, .int .i64 y.y, .int .i64 y.d, .int .i64 y.t, .int .i64 y.f], by
        have x2 := (ev_form a 2).trans (old hp 2 (v := .pointer (some ⟨w.heap.size, 0, none⟩)) (by kernel_rfl) (by kernel_rfl))
        obtain ⟨k0, k1, k2, k3, k4⟩ := unhide HH V hp.j
        go_simp, rfl⟩)
    · exact st_call (f := 73) rfl (fun l a V hp ha => ⟨#[.agg #[.int .i64 y.x, .int .i64 y.y, .int .i64 y.d, .int .i64 y.t, .int .i64 y.f]], by
        have x4 := (ev_form a 4).trans (show a.eval (.tmp 4) = .agg #[.int .i64 y.x, .int .i64 y.y, .int .i64 y.d, .int .i64 y.t, .int .i64 y.f] from kn hp ha 4 0 (by kernel_rfl) (by kernel_rfl))
        go_simp, (unhide HE V hp.j).mono (by rintro e V1 ⟨rfl, hb⟩; exact ⟨_, rfl, rfl, hb⟩)⟩)
    · exact st_call (f := 74) rfl (fun l a V hp ha => ⟨#[.agg #[.int .i64 ex, .int .i64 ey, .int .i64 y.t]], by
        have x5 := (ev_form a 5).trans (show a.eval (.tmp 5) = .agg #[.int .i64 ex, .int .i64 ey, .int .i64 y.t] from kn hp ha 5 1 (by kernel_rfl) (by kernel_rfl))
        go_simp, (iSpotJ ex ey y.t V).mono (by rintro e V1 ⟨rfl, hb⟩; exact ⟨_, rfl, rfl, hb⟩)⟩)
    · exact st_val rfl (fun l a V hp ha => ⟨.agg #[.int .i64 s1, .int .i64 s2], by
        have x1 := (ev_form a 1).trans (old hp 1 (v := .pointer (some ⟨gb, 0, none⟩)) (by kernel_rfl) (by kernel_rfl))
        obtain ⟨k0, k1⟩ := unhide HG2 V hp.j
        go_simp, rfl⟩)
    · exact st_val rfl (fun l a V hp ha => ⟨.bool q, by
          have x6 := (ev_form a 6).trans (show a.eval (.tmp 6) = .agg #[.int .i64 ex, .int .i64 ey] from kn hp ha 6 2 (by kernel_rfl) (by kernel_rfl))
          have x7 := (ev_form a 7).trans (show a.eval (.tmp 7) = .agg #[.int .i64 s1, .int .i64 s2] from kn hp ha 7 3 (by kernel_rfl) (by kernel_rfl))
          go_simp
          exact two_eq (f := fun z => Result.ok (Next.value (.bool z)) V) (unhide HQ), rfl⟩)
    · exact st_val rfl (fun l a V hp ha => ⟨.bool q, by
        have x8 := (ev_form a 8).trans (show a.eval (.tmp 8) = .bool q from kn hp ha 8 4 (by kernel_rfl) (by kernel_rfl))
        go_simp, rfl⟩)
  case hf =>
    intro l a W1 hp hall
    have B1 : Hid (Below W0.heap.size W0 W1) := hide hp.j
    have hv3 := hp.good 5 _ 3 rfl rfl (hall 5 (by decide))
    obtain ⟨us1, rfl, hus⟩ := putAll_of [4, 5, 6, 7, 8, 3] hp.nt hp.df (fun t ht => hp.keep t (dstIn (by kernel_rfl) ht))
    have hw3 : us1 3 = .bool q := by rw [hus 3]; exact hv3
    clear hp hall hus hv3
    simp only [putAll, List.foldl, Act.put, List.setIfInBounds_toArray, List.set_cons_zero, List.set_cons_succ, hw3]
    go_wp2_with fail
    exact bodyPost_ret (v := .bool q) (by simp [results, Tryz.results72, go_sem]) rfl ⟨rfl, btr (unhide HB0) (unhide B1)⟩
theorem iIndexH (gb : Nat) (xs : List Hop) (s1 s2 : Int) (v : Value) (w : World) (hl : xs.length ≤ 1048576) (hr : RS 5 RHop w 0 xs v) (hsm : ∀ h ∈ xs, SmH h ∧ 0 ≤ h.d ∧ h.d ≤ 3) (hg : Gc w) (h0 : w.cell? ⟨gb, 0, none⟩ = some (.int .i64 s1)) (h1 : w.cell? ⟨gb, 1, none⟩ = some (.int .i64 s2)) :
    Calls Tryz.prog 99 #[v, .func (.func 72) #[] #[.pointer (some ⟨gb, 0, none⟩)]] w fun e w' => (∃ r : Int, e = .returned (.int .i64 r) ∧ decide (0 ≤ r) = reachedB xs (s1, s2)) ∧ Below w.heap.size w w' := by
  rcases hr.open with ⟨rfl, a, c, rfl⟩ | ⟨b, o, c, rfl, hc, hn, _, hcs⟩
  · clear hr
    go_enter Tryz.func99, Tryz.ntmps99
    go_wp2
    refine wp_loop_rounds 1 ?_
    rw [rounds_succ]
    go_wp2
    exact bodyPost_ret (v := .int .i64 (-1)) (by simp [results, Tryz.results99, go_sem]) rfl ⟨⟨_, rfl, rfl⟩, brf _⟩
  have HC := hide hcs
  have HSM := hide hsm
  have HIE := hide (fun (y : Hop) (hy : y ∈ xs) V (hV : Below w.heap.size w V) => iEndsAt gb y s1 s2 V (hsm y hy).2 (hsm y hy).1 (hg.later hV) (cell_later hV h0) (cell_later hV h1))
  obtain ⟨N, hN⟩ : ∃ N, xs.length = N := ⟨_, rfl⟩
  have HN := hide hN
  rw [hN] at hl ⊢
  clear hcs hr hc hn hsm hN hg h0 h1
  go_enter Tryz.func99, Tryz.ntmps99
  go_wp2
  go_loopw [8] (fun i wr => ∃ k : Nat, k ≤ N ∧ i = .int .i64 k ∧ reachedB (xs.take k) (s1, s2) = false ∧ Below w.heap.size w wr) (fun i _ => N - (intOf i).toNat)
  case atStart => exact ⟨0, Nat.zero_le _, rfl, rfl, brf w⟩
  case round =>
    obtain ⟨k, hk, rfl, hall, hb⟩ := hrel
    have HA := hide hall
    have HB := hide hb
    clear hall hb
    by_cases hlt : k < N
    · have hx : xs[k]? = some (xs[k]'(by rw [unhide HN]; exact hlt)) := List.getElem?_eq_getElem _
      generalize xs[k]'(by rw [unhide HN]; exact hlt) = y at hx
      have HST := hide (reachedB_take hx (s1, s2))
      have HF : Hid (endH y = (s1, s2) → reachedB xs (s1, s2) = true) := hide (fun h => reachedB_mem hx h)
      obtain ⟨u, hul, hat, hus⟩ := unhide HC k y hx
      have HCALL := hide (unhide HIE y (List.mem_of_getElem? hx) wr (unhide HB))
      obtain ⟨k0, k1, k2, k3, k4⟩ : wr.cell? ⟨b, o + k * 5, none⟩ = some (.int .i64 y.x) ∧ wr.cell? ⟨b, o + k * 5 + 1, none⟩ = some (.int .i64 y.y) ∧ wr.cell? ⟨b, o + k * 5 + 2, none⟩ = some (.int .i64 y.d) ∧ wr.cell? ⟨b, o + k * 5 + 3, none⟩ = some (.int .i64 y.t) ∧ wr.cell? ⟨b, o + k * 5 + 4, none⟩ = some (.int .i64 y.f) := by
        obtain ⟨k0, k1, k2, k3, k4⟩ := hop_cells hul hat hus
        have hbV := unhide HB
        exact ⟨cell_later hbV k0, cell_later hbV k1, cell_later hbV k2, cell_later hbV k3, cell_later hbV k4⟩
      have i1 : (0 : Int) ≤ (k : Int) := by omega
      have i2 : (k : Int) < (N : Int) := by omega
      obtain ⟨q, hq⟩ : ∃ q, decide (endH y = (s1, s2)) = q := ⟨_, rfl⟩
      rw [hq] at HCALL
      have HQ2 := hide hq
      clear hat hul HC hx hus hq
      go_wp2_with fail
      refine (unhide HCALL).mono ?_
      rintro e W1 ⟨rfl, hb1⟩
      have HB1 := hide (btr (unhide HB) hb1)
      clear hb1 k0 k1 k2 k3 k4
      cases q
      · go_wp2_with fail
        go_roundw
        case rel => exact ⟨k + 1, by omega, by go_num, by rw [unhide HST, unhide HA, unhide HQ2]; rfl, unhide HB1⟩
        case measure => simp [intOf]; omega
      · go_wp2_with fail
        exact bodyPost_ret (v := .int .i64 (k : Int)) (by simp [results, Tryz.results99, go_sem]) rfl ⟨⟨_, rfl, by rw [unhide HF (of_decide_eq_true (unhide HQ2))]; exact decide_eq_true (by omega)⟩, unhide HB1⟩
    · obtain rfl : k = N := by omega
      clear HC
      go_wp2_with fail
      refine bodyPost_ret (v := .int .i64 (-1)) (by simp [results, Tryz.results99, go_sem]) rfl ⟨⟨_, rfl, ?_⟩, unhide HB⟩
      have h := unhide HA
      rw [List.take_of_length_le (by rw [unhide HN]; exact Nat.le_refl _)] at h
      rw [h]; rfl
theorem iContainsH (gb : Nat) (xs : List Hop) (s1 s2 : Int) (v : Value) (w : World) (hl : xs.length ≤ 1048576) (hr : RS 5 RHop w 0 xs v) (hsm : ∀ h ∈ xs, SmH h ∧ 0 ≤ h.d ∧ h.d ≤ 3) (hg : Gc w) (h0 : w.cell? ⟨gb, 0, none⟩ = some (.int .i64 s1)) (h1 : w.cell? ⟨gb, 1, none⟩ = some (.int .i64 s2)) :
    Calls Tryz.prog 71 #[v, .func (.func 72) #[] #[.pointer (some ⟨gb, 0, none⟩)]] w fun e w' => e = .returned (.bool (reachedB xs (s1, s2))) ∧ Below w.heap.size w w' := by
  have HI := hide (iIndexH gb xs s1 s2 v w hl hr hsm hg h0 h1)
  obtain ⟨a, c, rfl⟩ := hr.slice
  clear hr hg h0 h1 hsm
  go_enter Tryz.func71, Tryz.ntmps71
  go_wp2_with fail
  refine (unhide HI).mono ?_
  rintro e W1 ⟨⟨r, rfl, h⟩, hb⟩
  have HH := hide h
  have HB := hide hb
  clear h hb
  go_wp2_with fail
  exact bodyPost_ret (v := .bool (decide (0 ≤ r))) (by simp [results, Tryz.results71, go_sem]) rfl ⟨by rw [unhide HH], unhide HB⟩
theorem iComesTo (xs : List Hop) (s1 s2 : Int) (v : Value) (w : World) (hl : xs.length ≤ 1048576) (hr : RS 5 RHop w 0 xs v) (hsm : ∀ h ∈ xs, SmH h ∧ 0 ≤ h.d ∧ h.d ≤ 3) (hg : Gc w) :
    Calls Tryz.prog 37 #[v, .agg #[.int .i64 s1, .int .i64 s2]] w fun e w' => e = .returned (.bool (reachedB xs (s1, s2))) ∧ Below w.heap.size w w' := by
  obtain ⟨X, hX⟩ : ∃ X, X = w.alloc (.cells #[.int .i64 s1, .int .i64 s2] 87) := ⟨_, rfl⟩
  have hb : Below w.heap.size w X := by rw [hX]; exact bal (brf w) _
  have HI := hide (iContainsH w.heap.size xs s1 s2 v X hl (hr.later RHop.keeps hb) hsm (hg.later hb) (by rw [hX]; exact (new_cell (brf _) rfl).1) (by rw [hX]; exact (new_cell (brf _) rfl).1))
  obtain ⟨a, c, rfl⟩ := hr.slice
  have HXX := hide hX
  have HB := hide hb
  clear hr hg hsm hX hb
  go_enter Tryz.func37, Tryz.ntmps37
  go_wp2_with fail
  rw [← unhide HXX]
  refine (unhide HI).mono ?_
  rintro e W1 ⟨rfl, hb⟩
  have HB1 := hide (btr (unhide HB) hb)
  clear hb
  go_wp2_with fail
  exact bodyPost_ret (v := .bool (reachedB xs (s1, s2))) (by simp [results, Tryz.results37, go_sem]) rfl ⟨rfl, unhide HB1⟩
end Go.Proofs.YtlldfaniddbjaaaGreatDoor
