/- The program's visit. -/
import Derived.Test.YtonfbnbkhpabbaaP6
import Derived.WalkMore
namespace Go.Proofs.Ytonfbnbkhpabbaa
open Go Go.RowKit Gs
set_option linter.unusedVariables false
set_option linter.unusedSimpArgs false
set_option maxRecDepth 100000
theorem w0_some {c : List Int} (h : 2 ≤ c.length) : c[0]? = some (w0 c) := by rw [w0_at h]; exact List.getElem?_eq_getElem _
theorem w1_some {c : List Int} (h : 2 ≤ c.length) : c[1]? = some (w1 c) := by rw [w1_at h]; exact List.getElem?_eq_getElem _
section
variable {ok : Prop} {B n : Nat} {w W : World} {s : FS} {Cl : List (List Int)} {A t0 : List Int} {tb : List (List Int)} {fp : List Int} {gone : Int} {g c : Nat} {V : List Nat} {j : Nat} {K : List Nat} {r : FS} {wr : World}
theorem VI.q3 (h : VI ok B n w W s Cl A t0 tb fp gone g c V j K r wr) : wr.cell? ⟨s.b, 3, none⟩ = some (.slice (some ⟨s.ob, 0, none⟩) (2 * n + 2) (2 * n + 2)) := by
  rw [← h.fr.b, ← h.fr.ob]; exact h.fm.q3
theorem VI.obq (h : VI ok B n w W s Cl A t0 tb fp gone g c V j K r wr) : ∃ y, wr.cell? ⟨s.ob, plN gone, none⟩ = some y := by
  rw [← h.fr.ob]; exact ⟨_, h.fm.svq (plN_lt h.gl)⟩
theorem VI.obh (h : VI ok B n w W s Cl A t0 tb fp gone g c V j K r wr) : ∃ o, wr.heap[s.ob]? = some (.cells o 22) := by
  rw [← h.fr.ob]; exact ⟨_, h.fm.ho⟩
theorem VI.obf (h : VI ok B n w W s Cl A t0 tb fp gone g c V j K r wr) : wr.frozen? ⟨s.ob, plN gone, none⟩ = false := by
  obtain ⟨o, ho⟩ := h.obh
  simp [World.frozen?, ho]
theorem VI.nbg (h : VI ok B n w W s Cl A t0 tb fp gone g c V j K r wr) : s.b ≠ g ∧ s.ob ≠ g := by
  rw [← h.fr.b, ← h.fr.ob]
  exact ⟨ty_ne h.fm.hb h.row (by decide), ty_ne h.fm.ho h.row (by decide)⟩
end
set_option maxHeartbeats 12800000 in
theorem iVisit {ok : Prop} {B n : Nat} {w W : World} {s : FS} {Cl : List (List Int)} {A t0 : List Int} {tb : List (List Int)} {fp : List Int} (h : FM B n none W s) (hbw : Below B w W) (hBW : B ≤ W.heap.size) (hL : LS ok n Cl A t0 tb fp s.t s.vs s.ids s.cl s.ws) {gone : Int} (hgl : Lit n gone) (hgt : -gone ∈ s.t) (hn : n ≤ 2048) : Calls Try.prog 45 #[.pointer (some ⟨s.b, 0, none⟩), .int .i64 gone] W (VQ ok B n w W s Cl A t0 tb fp gone) := by
  have HPL := hide (iPl n gone W hgl hn)
  have hpl := plN_lt hgl
  have q3 := h.q3
  have hsv := h.svq hpl
  have hfz : W.frozen? ⟨s.ob, plN gone, none⟩ = false := by simp [World.frozen?, h.ho]
  have hrow := h.hw (plN gone) hpl (by simp)
  rw [ltP_plN] at hrow
  have hvl0 := hL.row gone
  rcases id hrow.2 with ⟨hnil, hlen0⟩ | ⟨g, c, cur, hv, hBg, hg, hlc, hcm, hcs, htk⟩
  · have hV : s.ws gone = [] := List.length_eq_zero_iff.1 hlen0
    have HE : Hid (VQ ok B n w W s Cl A t0 tb fp gone (.returned (.bool true)) (W.setCell ⟨s.ob, plN gone, none⟩ (.slice none 0 0))) := hide (by
      have f1 := h.open (plN gone) (xc := #[]) (fun j hj => by rw [hnil] at hj; cases hj)
      have f2 := f1.shut (v' := .slice none 0 0) hgl (by
        show World.ownsRow W B 24 1 _ (s.ws gone).length ((s.ws gone).map (hd s.ln s.cap))
        rw [hV]; exact ⟨rfl, .inl ⟨rfl, rfl⟩⟩) (by
        show _ = (s.sv (plN gone)).ownBlock
        rw [hnil])
      refine ⟨hbw.setCell (p := ⟨s.ob, plN gone, none⟩) h.lo.2.2.1 _, by simp, _, f2, (FR.refl s).same, .inl ⟨rfl, ?_⟩⟩
      exact hL.done hgt (by rw [hV]; intro i hi; cases hi))
    rw [hnil] at hsv
    obtain ⟨p, hp⟩ : ∃ p : Nat, p = plN gone := ⟨_, rfl⟩
    rw [← hp] at HPL hpl hsv hfz HE
    have p1 : (0 : Int) ≤ (p : Int) := by omega
    have p2 : (p : Int) < ((2 * n + 2 : Nat) : Int) := by omega
    clear h hbw hBW hL hrow hnil hp hV
    go_enter Try.func45, Try.ntmps45
    go_wp2_with fail
    go_step3
    go_wp2_with fail
    refine (unhide HPL).mono ?_
    rintro e W1 ⟨rfl, hw⟩
    have hw' := hw.symm
    subst hw'
    go_wp2
    go_step3
    go_wp2
    refine wp_loop_rounds 1 ?_
    rw [rounds_succ]
    go_wp2
    exact bodyPost_ret (v := .bool true) (by simp [results, Try.results45, go_sem]) rfl (unhide HE)
  · rw [Nat.mul_one] at hcs htk
    obtain ⟨V, hV⟩ : ∃ V, V = s.ws gone := ⟨_, rfl⟩
    have HST : Hid (VI ok B n w W s Cl A t0 tb fp gone g c V 0 [] { s with xc := cur } W) := hide (by
      refine ⟨h.open (plN gone) (fun j hj => ?_), hbw, Nat.le_refl _, hBW, (FR.refl s).same, by rw [hv]; rfl, hL, by rw [hV]; rfl, ⟨hcs, rfl, fun q i _ hi => ?_, Nat.le_refl _, by rw [hV]; exact hlc, hcm⟩, hgl, hgt, hn⟩
      · rw [hv] at hj
        have e : some g = some j := hj
        injection e with e
        subst e
        exact hg
      · rw [hV] at hi
        have h1 : (cur.toList.take (s.ws gone).length)[q]? = some (hd s.ln s.cap i) := by rw [htk, List.getElem?_map, hi]; rfl
        have h2 : q < (s.ws gone).length := (List.getElem?_eq_some_iff.1 hi).1
        rw [List.getElem?_take, if_pos h2] at h1
        simpa using h1)
    rw [hv, ← hV] at hsv
    rw [← hV] at hlc hvl0
    obtain ⟨p, hp⟩ : ∃ p : Nat, p = plN gone := ⟨_, rfl⟩
    rw [← hp] at HPL hpl hsv
    have HP := hide hp
    have p1 : (0 : Int) ≤ (p : Int) := by omega
    have p2 : (p : Int) < ((2 * n + 2 : Nat) : Int) := by omega
    have hc63 : c ≤ 9223372036854775807 := by have h1 := hcm; unfold maxLen at h1; omega
    obtain ⟨g0, g1, g2⟩ := id hgl
    have gl1 : -2048 ≤ gone := by omega
    have gl2 : gone ≤ 2048 := by omega
    clear h hbw hBW hL hrow hv hp hV hg hcs htk hcm hBg hfz g0 g1 g2
    go_enter Try.func45, Try.ntmps45
    go_wp2_with fail
    go_step3
    go_wp2_with fail
    refine (unhide HPL).mono ?_
    rintro e W1 ⟨rfl, hw⟩
    have hw' := hw.symm
    subst hw'
    go_wp2
    go_step3
    go_wp2
    go_loopw [7, 25] (fun kv iv wr => ∃ (j : Nat) (K : List Nat) (r : FS), j ≤ V.length ∧ iv = .int .i64 (j : Int) ∧ kv = .slice (some ⟨g, 0, none⟩) K.length c ∧ VI ok B n w W s Cl A t0 tb fp gone g c V j K r wr ∧ KP r.t r.cl gone K) (fun kv iv wr => V.length - (intOf iv).toNat)
    case atStart => exact ⟨0, [], _, Nat.zero_le _, rfl, rfl, unhide HST, fun i hi => by cases hi⟩
    case round =>
      obtain ⟨j, K, r, hj, rfl, rfl, hvi, hkp⟩ := hrel
      clear HST q3 hsv
      by_cases hjl : j < V.length
      · obtain ⟨i, hi⟩ : ∃ i, V[j]? = some i := ⟨_, List.getElem?_eq_getElem hjl⟩
        obtain ⟨hmi, hnK, hnR, hgw⟩ := hvi.ls.look (hvi.at hi)
        obtain ⟨k1, k2, k3⟩ := hvi.ls.wt.ok i hmi
        have hcl := nodup_len k3 k2
        have hcell := hvi.head hi
        have c0 := hvi.fm.lit hmi (w0_some k1)
        have c1 := hvi.fm.lit hmi (w1_some k1)
        have lf0 := hvi.fm.lfz hmi 0
        have lf1 := hvi.fm.lfz hmi 1
        have hln : s.ln i = (r.cl i).length := by rw [← hvi.fr.ln]; exact (hvi.fm.hc i hmi).1
        obtain ⟨cn, hcn⟩ : ∃ cn, cn = (r.cl i).length := ⟨_, rfl⟩
        have HHD : Hid (hd s.ln s.cap i = .slice (some ⟨i, 0, none⟩) cn (s.cap i)) := hide (by unfold hd; rw [hln, hcn])
        rw [← hcn] at hcell hcl
        have hcn2 : 2 ≤ cn := by rw [hcn]; exact k1
        have hcn4 : cn ≤ 4098 := by omega
        have n1 : (0 : Int) < (cn : Int) := by omega
        have n2 : (1 : Int) < (cn : Int) := by omega
        have j1 : (j : Int) < (V.length : Int) := by omega
        have j2 : (0 : Int) ≤ (j : Int) := by omega
        by_cases hx : w0 (r.cl i) = gone
        · obtain ⟨hv1, hkp1, e1, e0⟩ := hvi.swap hi hx hkp
          have hlen1 : (upC r.cl i (sw (r.cl i)) i).length = cn := by rw [upC_same, (sw_spec k1).1.len, hcn]
          have hql : Lit n (w1 (r.cl i)) := k3 _ (mem_w1 k1)
          rw [hx] at c0
          obtain ⟨q, hq⟩ : ∃ q, q = w1 (r.cl i) := ⟨_, rfl⟩
          rw [← hq] at c1 hv1 e0 hql
          obtain ⟨r1, hr1⟩ : ∃ r1 : FS, r1 = { r with cl := upC r.cl i (sw (r.cl i)) } := ⟨_, rfl⟩
          have HVI := hide hv1
          rw [← hr1] at HVI
          have HKP : Hid (KP r1.t r1.cl gone K) := hide (by rw [hr1]; exact hkp1)
          have HW1 : Hid (w1 (r1.cl i) = gone) := hide (by rw [hr1]; exact e1)
          have HQ : Hid (q = w0 (r1.cl i)) := hide (by rw [hr1]; exact e0.symm)
          have HCN : Hid ((r1.cl i).length = cn) := hide (by rw [hr1]; exact hlen1)
          have HMI : Hid (i ∈ r1.ids) := hide (by rw [hr1]; exact hmi)
          have HQL := hide hql
          clear hvi hkp hmi hnK hnR hgw k1 k2 k3 hln hcn hx hv1 hkp1 e1 e0 hlen1 hql hq hr1 hcl
          -- from here on: r1, wr1, q, cn
          have HVAL := hide ((unhide HVI).value (unhide HQL))
          have h3 := (unhide HVI).ls.vr.three (unhide HQL)
          by_cases e1 : val r1.vs q = 1
          · rw [e1] at HVAL
            have HT : Hid (w0 (r1.cl i) ∈ r1.t ∨ (ok → Der Cl A (w0 (r1.cl i)) ∧ (-(w0 (r1.cl i)) ∈ r1.t → Con Cl A))) := hide (.inl (by rw [← unhide HQ]; exact (unhide HVI).ls.vr.one (unhide HQL) e1))
            clear h3 e1
            go_wp2_with fail
            refine (unhide HVAL).mono ?_
            rintro e wr1 ⟨rfl, hw⟩
            rw [← hw] at HVI
            clear HVAL hw
            -- the clause is kept, and its first literal assumed
            have HVK := hide ((unhide HVI).keep hi (.cells #[.slice (some ⟨i, 0, none⟩) cn (s.cap i)] 24))
            rw [unhide HHD] at HVK
            obtain ⟨cs, hcs⟩ : ∃ cs, cs = (r1.xc.toList.take K.length ++ [Value.slice (some ⟨i, 0, none⟩) cn (s.cap i)] ++ r1.xc.toList.drop (K.length + 1)).toArray := ⟨_, rfl⟩
            rw [← hcs] at HVK
            have HCS := hide hcs
            clear hcs
            have HAS := hide ((unhide HVK).assume (unhide HKP) (unhide HW1) (unhide HMI) (unhide HT))
            rw [← unhide HQ] at HAS
            have HRW := hide (unhide HVI).row
            have hkl := (unhide HVI).rv.le
            have hvl := (unhide HVI).rv.vl
            have HXS := hide (unhide HVI).rv.sz
            have c0' : ((wr1.alloc (.cells #[.slice (some ⟨i, 0, none⟩) cn (s.cap i)] 24)).setRow g cs).cell? ⟨i, 0, none⟩ = some (.int .i64 q) := by
              rw [unhide HQ]
              exact (unhide HVK).fm.lit (unhide HMI) (w0_some ((unhide HVI).ls.wt.ok i (unhide HMI)).1)
            have n1 : (0 : Int) < (cn : Int) := by omega
            go_wp2_with (first
              | (at_builtin; refine wpAppIn rfl _ _ rfl g K.length c r1.xc (heap_al (unhide HRW)) rfl ⟨wr1.heap.size, 0, none⟩ 1 1 [.slice (some ⟨i, 0, none⟩) cn (s.cap i)] rfl rfl (cell_one_new _ _ _) (by intro u hu; simp at hu; subst hu; rfl) (by omega) (by rw [unhide HXS]; omega) cs (unhide HCS) ?_)
              | fail)
            refine (unhide HAS).mono ?_
            rintro e W1 (⟨rfl, r2, hvi2, hkp2⟩ | ⟨rfl, hcon, hw⟩)
            · have HV2 := hide hvi2
              have HK2 := hide hkp2
              have HLK : Hid (K.length + 1 = (K ++ [i]).length) := hide (by simp)
              clear hvi2 hkp2 c0' HAS HVK HVI HKP HRW
              go_wp2
              rw [unhide HLK]
              exact ⟨⟨j + 1, K ++ [i], r2, by omega, by go_num, rfl, unhide HV2, unhide HK2⟩, by simp [intOf]; omega⟩
            · have HLK : Hid ((K ++ [i]).length = K.length + 1) := hide (by simp)
              have HVX := hide (unhide HVK)
              rw [← hw] at HVX
              have HSTOP := hide (fun (V0 : World) (hV0 : Below W1.heap.size W1 V0) => (unhide HVX).stop hjl hcon hV0)
              rw [unhide HLK] at HSTOP
              have HG := hide (unhide HVX).row
              have HC3 := hide (unhide HVX).q3
              obtain ⟨y, hy⟩ := (unhide HVX).obq
              rw [← unhide HP] at hy HSTOP
              have HCH := hide hy
              obtain ⟨oc, hoc⟩ := (unhide HVX).obh
              have HOB := hide hoc
              have HNB := hide (unhide HVX).nbg
              have hsz := (unhide HVX).rv.sz
              have HN1 : Hid (((V.drop (j + 1)).map (hd s.ln s.cap)).length = V.length - (j + 1)) := hide (by simp)
              have HN3 : Hid (∀ u ∈ (V.drop (j + 1)).map (hd s.ln s.cap), u.oneCell' = true) := hide (by
                intro u hu
                obtain ⟨x, _, e⟩ := List.mem_map.1 hu
                subst e; rfl)
              have HRS := hide (unhide HVX).rv.rs
              have HN2 : Hid (∀ q u, ((V.drop (j + 1)).map (hd s.ln s.cap))[q]? = some u → cs[j + 1 + q]? = some u) := hide (by
                intro q u hq
                rw [List.getElem?_map, Option.map_eq_some_iff] at hq
                obtain ⟨x, hx, e⟩ := hq
                rw [List.getElem?_drop] at hx
                subst e
                exact unhide HRS (j + 1 + q) x (by omega) hx)
              clear c0' HAS HVK HVI HKP HRW hw hy hoc HVX HRS
              go_wp2_with fail
              refine viRow (ad := if c = j + 1 then 0 else j + 1) hpl hjl hvl hc63 (by omega) (by split <;> simp [*]) hsz HN1 HN2 HN3 HG HC3 HCH HOB HNB _ rfl rfl rfl rfl rfl rfl ?_
              intro a V9 V0 hnt hdf hkeep hV0 hV9
              have HFIN := hide (unhide HSTOP V0 hV0)
              rw [← hV9] at HFIN
              obtain ⟨us, rfl, hus⟩ := putAll_of [84, 85, 86, 87, 88, 89, 90, 91, 92, 93, 94, 95] hnt hdf hkeep
              clear hnt hdf hkeep hus hV9 HSTOP hV0
              simp only [putAll, List.foldl, Act.put, List.setIfInBounds_toArray, List.set_cons_zero, List.set_cons_succ]
              go_wp2
              exact bodyPost_ret (v := .bool false) (by simp [results, Try.results45, go_sem]) rfl (unhide HFIN)
          · obtain ⟨rv, hrv⟩ : ∃ rv, rv = val r1.vs q := ⟨_, rfl⟩
            rw [← hrv] at HVAL h3 e1
            have rl : rv < 1 := by omega
            clear hrv h3 e1
            go_wp2_with fail
            refine (unhide HVAL).mono ?_
            rintro e wr1 ⟨rfl, hw⟩
            rw [← hw] at HVI
            clear HVAL hw
            go_wp2
            go_loopw [10] (fun kv wr2 => ∃ k : Nat, 2 ≤ k ∧ k ≤ cn ∧ kv = .int .i64 (k : Int) ∧ wr2 = wr1 ∧ ∀ m z, 2 ≤ m → m < k → (r1.cl i)[m]? = some z → -z ∈ r1.t) (fun kv wr2 => cn - (intOf kv).toNat)
            case atStart => exact ⟨2, Nat.le_refl _, hcn2, rfl, rfl, fun m z h1 h2 => by omega⟩
            case round =>
              obtain ⟨k, hk2, hkc, rfl, hwe, hfa⟩ := hrel
              have hwe' := hwe.symm
              subst hwe'
              by_cases hkl : k < cn
              · obtain ⟨z, hz⟩ : ∃ z, (r1.cl i)[k]? = some z := ⟨_, List.getElem?_eq_getElem (by rw [unhide HCN]; exact hkl)⟩
                have hok := (unhide HVI).ls.wt.ok i (unhide HMI)
                have hzl : Lit n z := hok.2.2 z (List.mem_of_getElem? hz)
                have HVZ := hide ((unhide HVI).value hzl)
                have cz := (unhide HVI).fm.lit (unhide HMI) hz
                have c1' := (unhide HVI).fm.lit (unhide HMI) (w1_some hok.1)
                have f1 := (unhide HVI).fm.lfz (unhide HMI) 1
                have fk := (unhide HVI).fm.lfz (unhide HMI) k
                have h3 := (unhide HVI).ls.vr.three hzl
                obtain ⟨z0, z1, z2⟩ := id hzl
                have zl1 : -2048 ≤ z := by omega
                have zl2 : z ≤ 2048 := by omega
                have kk1 : (k : Int) < (cn : Int) := by omega
                have kk0 : (0 : Int) ≤ (k : Int) := by omega
                have kk2 : k ≠ 1 := by omega
                have n2 : (1 : Int) < (cn : Int) := by omega
                by_cases e2 : val r1.vs z = -1
                · rw [e2] at HVZ
                  have HNX : Hid (∀ m z', 2 ≤ m → m < k + 1 → (r1.cl i)[m]? = some z' → -z' ∈ r1.t) := hide (fun m z' h1 h2 h4 => by
                    by_cases e : m = k
                    · subst e
                      rw [hz] at h4; injection h4 with h4; subst h4
                      exact (unhide HVI).ls.vr.mone hzl e2
                    · exact hfa m z' h1 (by omega) h4)
                  clear hfa h3 e2 hok hzl hz z0 z1 z2
                  go_wp2_with fail
                  refine (unhide HVZ).mono ?_
                  rintro e W1 ⟨rfl, hw⟩
                  have hw' := hw.symm
                  subst hw'
                  go_wp2
                  exact ⟨⟨k + 1, by omega, by omega, by go_num, trivial, unhide HNX⟩, by simp [intOf]; omega⟩
                · have hnz : -z ∉ r1.t := fun hm => e2 ((unhide HVI).ls.vr.neg hzl hm)
                  have HWA := hide ((unhide HVI).watch (unhide HKP) hi (unhide HW1) hk2 hz hnz)
                  rw [unhide HCN] at HWA
                  obtain ⟨rv2, hrv2⟩ : ∃ rv, rv = val r1.vs z := ⟨_, rfl⟩
                  rw [← hrv2] at HVZ h3 e2
                  have rg : 0 ≤ rv2 := by omega
                  have rg2 : rv2 ≤ 1 := by omega
                  clear hfa h3 e2 hok hzl hz z0 z1 z2 hrv2 hnz
                  go_wp2_with fail
                  refine (unhide HVZ).mono ?_
                  rintro e W1 ⟨rfl, hw⟩
                  have hw' := hw.symm
                  subst hw'
                  go_wp2_with fail
                  refine (unhide HWA).mono ?_
                  rintro e W1 ⟨rfl, r2, hvi2, hkp2⟩
                  have HV2 := hide hvi2
                  have HK2 := hide hkp2
                  clear hvi2 hkp2 HWA HVI HKP HVZ
                  go_wp2
                  exact ⟨⟨j + 1, K, r2, by omega, by go_num, rfl, unhide HV2, unhide HK2⟩, by simp [intOf]; omega⟩
              · have hke : k = cn := by omega
                have HT : Hid (w0 (r1.cl i) ∈ r1.t ∨ (ok → Der Cl A (w0 (r1.cl i)) ∧ (-(w0 (r1.cl i)) ∈ r1.t → Con Cl A))) := hide (.inr (fun o => (unhide HVI).ls.unit o (unhide HMI) (unhide HW1) (unhide HVI).gt (fun m z h1 h2 => hfa m z h1 (by rw [hke, ← unhide HCN]; exact (List.getElem?_eq_some_iff.1 h2).1) h2)))
                have kk1 : ¬ ((k : Int) < (cn : Int)) := by omega
                clear hfa
                -- the clause is kept, and its first literal assumed
                have HVK := hide ((unhide HVI).keep hi (.cells #[.slice (some ⟨i, 0, none⟩) cn (s.cap i)] 24))
                rw [unhide HHD] at HVK
                obtain ⟨cs, hcs⟩ : ∃ cs, cs = (r1.xc.toList.take K.length ++ [Value.slice (some ⟨i, 0, none⟩) cn (s.cap i)] ++ r1.xc.toList.drop (K.length + 1)).toArray := ⟨_, rfl⟩
                rw [← hcs] at HVK
                have HCS := hide hcs
                clear hcs
                have HAS := hide ((unhide HVK).assume (unhide HKP) (unhide HW1) (unhide HMI) (unhide HT))
                rw [← unhide HQ] at HAS
                have HRW := hide (unhide HVI).row
                have hkl := (unhide HVI).rv.le
                have hvl := (unhide HVI).rv.vl
                have HXS := hide (unhide HVI).rv.sz
                have c0' : ((wr1.alloc (.cells #[.slice (some ⟨i, 0, none⟩) cn (s.cap i)] 24)).setRow g cs).cell? ⟨i, 0, none⟩ = some (.int .i64 q) := by
                  rw [unhide HQ]
                  exact (unhide HVK).fm.lit (unhide HMI) (w0_some ((unhide HVI).ls.wt.ok i (unhide HMI)).1)
                have n1 : (0 : Int) < (cn : Int) := by omega
                go_wp2_with (first
                  | (at_builtin; refine wpAppIn rfl _ _ rfl g K.length c r1.xc (heap_al (unhide HRW)) rfl ⟨wr1.heap.size, 0, none⟩ 1 1 [.slice (some ⟨i, 0, none⟩) cn (s.cap i)] rfl rfl (cell_one_new _ _ _) (by intro u hu; simp at hu; subst hu; rfl) (by omega) (by rw [unhide HXS]; omega) cs (unhide HCS) ?_)
                  | fail)
                refine (unhide HAS).mono ?_
                rintro e W1 (⟨rfl, r2, hvi2, hkp2⟩ | ⟨rfl, hcon, hw⟩)
                · have HV2 := hide hvi2
                  have HK2 := hide hkp2
                  have HLK : Hid (K.length + 1 = (K ++ [i]).length) := hide (by simp)
                  clear hvi2 hkp2 c0' HAS HVK HVI HKP HRW
                  go_wp2
                  rw [unhide HLK]
                  exact ⟨⟨j + 1, K ++ [i], r2, by omega, by go_num, rfl, unhide HV2, unhide HK2⟩, by simp [intOf]; omega⟩
                · have HLK : Hid ((K ++ [i]).length = K.length + 1) := hide (by simp)
                  have HVX := hide (unhide HVK)
                  rw [← hw] at HVX
                  have HSTOP := hide (fun (V0 : World) (hV0 : Below W1.heap.size W1 V0) => (unhide HVX).stop hjl hcon hV0)
                  rw [unhide HLK] at HSTOP
                  have HG := hide (unhide HVX).row
                  have HC3 := hide (unhide HVX).q3
                  obtain ⟨y, hy⟩ := (unhide HVX).obq
                  rw [← unhide HP] at hy HSTOP
                  have HCH := hide hy
                  obtain ⟨oc, hoc⟩ := (unhide HVX).obh
                  have HOB := hide hoc
                  have HNB := hide (unhide HVX).nbg
                  have hsz := (unhide HVX).rv.sz
                  have HN1 : Hid (((V.drop (j + 1)).map (hd s.ln s.cap)).length = V.length - (j + 1)) := hide (by simp)
                  have HN3 : Hid (∀ u ∈ (V.drop (j + 1)).map (hd s.ln s.cap), u.oneCell' = true) := hide (by
                    intro u hu
                    obtain ⟨x, _, e⟩ := List.mem_map.1 hu
                    subst e; rfl)
                  have HRS := hide (unhide HVX).rv.rs
                  have HN2 : Hid (∀ q u, ((V.drop (j + 1)).map (hd s.ln s.cap))[q]? = some u → cs[j + 1 + q]? = some u) := hide (by
                    intro q u hq
                    rw [List.getElem?_map, Option.map_eq_some_iff] at hq
                    obtain ⟨x, hx, e⟩ := hq
                    rw [List.getElem?_drop] at hx
                    subst e
                    exact unhide HRS (j + 1 + q) x (by omega) hx)
                  clear c0' HAS HVK HVI HKP HRW hw hy hoc HVX HRS
                  go_wp2_with fail
                  refine viRow (ad := if c = j + 1 then 0 else j + 1) hpl hjl hvl hc63 (by omega) (by split <;> simp [*]) hsz HN1 HN2 HN3 HG HC3 HCH HOB HNB _ rfl rfl rfl rfl rfl rfl ?_
                  intro a V9 V0 hnt hdf hkeep hV0 hV9
                  have HFIN := hide (unhide HSTOP V0 hV0)
                  rw [← hV9] at HFIN
                  obtain ⟨us, rfl, hus⟩ := putAll_of [84, 85, 86, 87, 88, 89, 90, 91, 92, 93, 94, 95] hnt hdf hkeep
                  clear hnt hdf hkeep hus hV9 HSTOP hV0
                  simp only [putAll, List.foldl, Act.put, List.setIfInBounds_toArray, List.set_cons_zero, List.set_cons_succ]
                  go_wp2
                  exact bodyPost_ret (v := .bool false) (by simp [results, Try.results45, go_sem]) rfl (unhide HFIN)
        · have hw1g : w1 (r.cl i) = gone := (hgw.resolve_left (fun e => hx e.symm)).symm
          have hql : Lit n (w0 (r.cl i)) := k3 _ (mem_w0 k1)
          obtain ⟨q, hq⟩ : ∃ q, q = w0 (r.cl i) := ⟨_, rfl⟩
          rw [← hq] at c0 hx hql
          obtain ⟨r1, hr1⟩ : ∃ r1 : FS, r1 = r := ⟨_, rfl⟩
          have HVI := hide hvi
          rw [← hr1] at HVI
          have HKP : Hid (KP r1.t r1.cl gone K) := hide (by rw [hr1]; exact hkp)
          have HW1 : Hid (w1 (r1.cl i) = gone) := hide (by rw [hr1]; exact hw1g)
          have HQ : Hid (q = w0 (r1.cl i)) := hide (by rw [hr1]; exact hq)
          have HCN : Hid ((r1.cl i).length = cn) := hide (by rw [hr1]; exact hcn.symm)
          have HMI : Hid (i ∈ r1.ids) := hide (by rw [hr1]; exact hmi)
          have HQL := hide hql
          have hx' : (q == gone) = false := by simpa using hx
          clear hvi hkp hmi hnK hnR hgw k1 k2 k3 hln hcn hw1g hql hq hr1 hcl
          -- from here on: r1, wr1, q, cn
          have HVAL := hide ((unhide HVI).value (unhide HQL))
          have h3 := (unhide HVI).ls.vr.three (unhide HQL)
          by_cases e1 : val r1.vs q = 1
          · rw [e1] at HVAL
            have HT : Hid (w0 (r1.cl i) ∈ r1.t ∨ (ok → Der Cl A (w0 (r1.cl i)) ∧ (-(w0 (r1.cl i)) ∈ r1.t → Con Cl A))) := hide (.inl (by rw [← unhide HQ]; exact (unhide HVI).ls.vr.one (unhide HQL) e1))
            clear h3 e1
            go_wp2_with fail
            refine (unhide HVAL).mono ?_
            rintro e wr1 ⟨rfl, hw⟩
            rw [← hw] at HVI
            clear HVAL hw
            -- the clause is kept, and its first literal assumed
            have HVK := hide ((unhide HVI).keep hi (.cells #[.slice (some ⟨i, 0, none⟩) cn (s.cap i)] 24))
            rw [unhide HHD] at HVK
            obtain ⟨cs, hcs⟩ : ∃ cs, cs = (r1.xc.toList.take K.length ++ [Value.slice (some ⟨i, 0, none⟩) cn (s.cap i)] ++ r1.xc.toList.drop (K.length + 1)).toArray := ⟨_, rfl⟩
            rw [← hcs] at HVK
            have HCS := hide hcs
            clear hcs
            have HAS := hide ((unhide HVK).assume (unhide HKP) (unhide HW1) (unhide HMI) (unhide HT))
            rw [← unhide HQ] at HAS
            have HRW := hide (unhide HVI).row
            have hkl := (unhide HVI).rv.le
            have hvl := (unhide HVI).rv.vl
            have HXS := hide (unhide HVI).rv.sz
            have c0' : ((wr1.alloc (.cells #[.slice (some ⟨i, 0, none⟩) cn (s.cap i)] 24)).setRow g cs).cell? ⟨i, 0, none⟩ = some (.int .i64 q) := by
              rw [unhide HQ]
              exact (unhide HVK).fm.lit (unhide HMI) (w0_some ((unhide HVI).ls.wt.ok i (unhide HMI)).1)
            have n1 : (0 : Int) < (cn : Int) := by omega
            go_wp2_with (first
              | (at_builtin; refine wpAppIn rfl _ _ rfl g K.length c r1.xc (heap_al (unhide HRW)) rfl ⟨wr1.heap.size, 0, none⟩ 1 1 [.slice (some ⟨i, 0, none⟩) cn (s.cap i)] rfl rfl (cell_one_new _ _ _) (by intro u hu; simp at hu; subst hu; rfl) (by omega) (by rw [unhide HXS]; omega) cs (unhide HCS) ?_)
              | fail)
            refine (unhide HAS).mono ?_
            rintro e W1 (⟨rfl, r2, hvi2, hkp2⟩ | ⟨rfl, hcon, hw⟩)
            · have HV2 := hide hvi2
              have HK2 := hide hkp2
              have HLK : Hid (K.length + 1 = (K ++ [i]).length) := hide (by simp)
              clear hvi2 hkp2 c0' HAS HVK HVI HKP HRW
              go_wp2
              rw [unhide HLK]
              exact ⟨⟨j + 1, K ++ [i], r2, by omega, by go_num, rfl, unhide HV2, unhide HK2⟩, by simp [intOf]; omega⟩
            · have HLK : Hid ((K ++ [i]).length = K.length + 1) := hide (by simp)
              have HVX := hide (unhide HVK)
              rw [← hw] at HVX
              have HSTOP := hide (fun (V0 : World) (hV0 : Below W1.heap.size W1 V0) => (unhide HVX).stop hjl hcon hV0)
              rw [unhide HLK] at HSTOP
              have HG := hide (unhide HVX).row
              have HC3 := hide (unhide HVX).q3
              obtain ⟨y, hy⟩ := (unhide HVX).obq
              rw [← unhide HP] at hy HSTOP
              have HCH := hide hy
              obtain ⟨oc, hoc⟩ := (unhide HVX).obh
              have HOB := hide hoc
              have HNB := hide (unhide HVX).nbg
              have hsz := (unhide HVX).rv.sz
              have HN1 : Hid (((V.drop (j + 1)).map (hd s.ln s.cap)).length = V.length - (j + 1)) := hide (by simp)
              have HN3 : Hid (∀ u ∈ (V.drop (j + 1)).map (hd s.ln s.cap), u.oneCell' = true) := hide (by
                intro u hu
                obtain ⟨x, _, e⟩ := List.mem_map.1 hu
                subst e; rfl)
              have HRS := hide (unhide HVX).rv.rs
              have HN2 : Hid (∀ q u, ((V.drop (j + 1)).map (hd s.ln s.cap))[q]? = some u → cs[j + 1 + q]? = some u) := hide (by
                intro q u hq
                rw [List.getElem?_map, Option.map_eq_some_iff] at hq
                obtain ⟨x, hx, e⟩ := hq
                rw [List.getElem?_drop] at hx
                subst e
                exact unhide HRS (j + 1 + q) x (by omega) hx)
              clear c0' HAS HVK HVI HKP HRW hw hy hoc HVX HRS
              go_wp2_with fail
              refine viRow (ad := if c = j + 1 then 0 else j + 1) hpl hjl hvl hc63 (by omega) (by split <;> simp [*]) hsz HN1 HN2 HN3 HG HC3 HCH HOB HNB _ rfl rfl rfl rfl rfl rfl ?_
              intro a V9 V0 hnt hdf hkeep hV0 hV9
              have HFIN := hide (unhide HSTOP V0 hV0)
              rw [← hV9] at HFIN
              obtain ⟨us, rfl, hus⟩ := putAll_of [84, 85, 86, 87, 88, 89, 90, 91, 92, 93, 94, 95] hnt hdf hkeep
              clear hnt hdf hkeep hus hV9 HSTOP hV0
              simp only [putAll, List.foldl, Act.put, List.setIfInBounds_toArray, List.set_cons_zero, List.set_cons_succ]
              go_wp2
              exact bodyPost_ret (v := .bool false) (by simp [results, Try.results45, go_sem]) rfl (unhide HFIN)
          · obtain ⟨rv, hrv⟩ : ∃ rv, rv = val r1.vs q := ⟨_, rfl⟩
            rw [← hrv] at HVAL h3 e1
            have rl : rv < 1 := by omega
            clear hrv h3 e1
            go_wp2_with fail
            refine (unhide HVAL).mono ?_
            rintro e wr1 ⟨rfl, hw⟩
            rw [← hw] at HVI
            clear HVAL hw
            go_wp2
            go_loopw [10] (fun kv wr2 => ∃ k : Nat, 2 ≤ k ∧ k ≤ cn ∧ kv = .int .i64 (k : Int) ∧ wr2 = wr1 ∧ ∀ m z, 2 ≤ m → m < k → (r1.cl i)[m]? = some z → -z ∈ r1.t) (fun kv wr2 => cn - (intOf kv).toNat)
            case atStart => exact ⟨2, Nat.le_refl _, hcn2, rfl, rfl, fun m z h1 h2 => by omega⟩
            case round =>
              obtain ⟨k, hk2, hkc, rfl, hwe, hfa⟩ := hrel
              have hwe' := hwe.symm
              subst hwe'
              by_cases hkl : k < cn
              · obtain ⟨z, hz⟩ : ∃ z, (r1.cl i)[k]? = some z := ⟨_, List.getElem?_eq_getElem (by rw [unhide HCN]; exact hkl)⟩
                have hok := (unhide HVI).ls.wt.ok i (unhide HMI)
                have hzl : Lit n z := hok.2.2 z (List.mem_of_getElem? hz)
                have HVZ := hide ((unhide HVI).value hzl)
                have cz := (unhide HVI).fm.lit (unhide HMI) hz
                have c1' := (unhide HVI).fm.lit (unhide HMI) (w1_some hok.1)
                have f1 := (unhide HVI).fm.lfz (unhide HMI) 1
                have fk := (unhide HVI).fm.lfz (unhide HMI) k
                have h3 := (unhide HVI).ls.vr.three hzl
                obtain ⟨z0, z1, z2⟩ := id hzl
                have zl1 : -2048 ≤ z := by omega
                have zl2 : z ≤ 2048 := by omega
                have kk1 : (k : Int) < (cn : Int) := by omega
                have kk0 : (0 : Int) ≤ (k : Int) := by omega
                have kk2 : k ≠ 1 := by omega
                have n2 : (1 : Int) < (cn : Int) := by omega
                by_cases e2 : val r1.vs z = -1
                · rw [e2] at HVZ
                  have HNX : Hid (∀ m z', 2 ≤ m → m < k + 1 → (r1.cl i)[m]? = some z' → -z' ∈ r1.t) := hide (fun m z' h1 h2 h4 => by
                    by_cases e : m = k
                    · subst e
                      rw [hz] at h4; injection h4 with h4; subst h4
                      exact (unhide HVI).ls.vr.mone hzl e2
                    · exact hfa m z' h1 (by omega) h4)
                  clear hfa h3 e2 hok hzl hz z0 z1 z2
                  go_wp2_with fail
                  refine (unhide HVZ).mono ?_
                  rintro e W1 ⟨rfl, hw⟩
                  have hw' := hw.symm
                  subst hw'
                  go_wp2
                  exact ⟨⟨k + 1, by omega, by omega, by go_num, trivial, unhide HNX⟩, by simp [intOf]; omega⟩
                · have hnz : -z ∉ r1.t := fun hm => e2 ((unhide HVI).ls.vr.neg hzl hm)
                  have HWA := hide ((unhide HVI).watch (unhide HKP) hi (unhide HW1) hk2 hz hnz)
                  rw [unhide HCN] at HWA
                  obtain ⟨rv2, hrv2⟩ : ∃ rv, rv = val r1.vs z := ⟨_, rfl⟩
                  rw [← hrv2] at HVZ h3 e2
                  have rg : 0 ≤ rv2 := by omega
                  have rg2 : rv2 ≤ 1 := by omega
                  clear hfa h3 e2 hok hzl hz z0 z1 z2 hrv2 hnz
                  go_wp2_with fail
                  refine (unhide HVZ).mono ?_
                  rintro e W1 ⟨rfl, hw⟩
                  have hw' := hw.symm
                  subst hw'
                  go_wp2_with fail
                  refine (unhide HWA).mono ?_
                  rintro e W1 ⟨rfl, r2, hvi2, hkp2⟩
                  have HV2 := hide hvi2
                  have HK2 := hide hkp2
                  clear hvi2 hkp2 HWA HVI HKP HVZ
                  go_wp2
                  exact ⟨⟨j + 1, K, r2, by omega, by go_num, rfl, unhide HV2, unhide HK2⟩, by simp [intOf]; omega⟩
              · have hke : k = cn := by omega
                have HT : Hid (w0 (r1.cl i) ∈ r1.t ∨ (ok → Der Cl A (w0 (r1.cl i)) ∧ (-(w0 (r1.cl i)) ∈ r1.t → Con Cl A))) := hide (.inr (fun o => (unhide HVI).ls.unit o (unhide HMI) (unhide HW1) (unhide HVI).gt (fun m z h1 h2 => hfa m z h1 (by rw [hke, ← unhide HCN]; exact (List.getElem?_eq_some_iff.1 h2).1) h2)))
                have kk1 : ¬ ((k : Int) < (cn : Int)) := by omega
                clear hfa
                -- the clause is kept, and its first literal assumed
                have HVK := hide ((unhide HVI).keep hi (.cells #[.slice (some ⟨i, 0, none⟩) cn (s.cap i)] 24))
                rw [unhide HHD] at HVK
                obtain ⟨cs, hcs⟩ : ∃ cs, cs = (r1.xc.toList.take K.length ++ [Value.slice (some ⟨i, 0, none⟩) cn (s.cap i)] ++ r1.xc.toList.drop (K.length + 1)).toArray := ⟨_, rfl⟩
                rw [← hcs] at HVK
                have HCS := hide hcs
                clear hcs
                have HAS := hide ((unhide HVK).assume (unhide HKP) (unhide HW1) (unhide HMI) (unhide HT))
                rw [← unhide HQ] at HAS
                have HRW := hide (unhide HVI).row
                have hkl := (unhide HVI).rv.le
                have hvl := (unhide HVI).rv.vl
                have HXS := hide (unhide HVI).rv.sz
                have c0' : ((wr1.alloc (.cells #[.slice (some ⟨i, 0, none⟩) cn (s.cap i)] 24)).setRow g cs).cell? ⟨i, 0, none⟩ = some (.int .i64 q) := by
                  rw [unhide HQ]
                  exact (unhide HVK).fm.lit (unhide HMI) (w0_some ((unhide HVI).ls.wt.ok i (unhide HMI)).1)
                have n1 : (0 : Int) < (cn : Int) := by omega
                go_wp2_with (first
                  | (at_builtin; refine wpAppIn rfl _ _ rfl g K.length c r1.xc (heap_al (unhide HRW)) rfl ⟨wr1.heap.size, 0, none⟩ 1 1 [.slice (some ⟨i, 0, none⟩) cn (s.cap i)] rfl rfl (cell_one_new _ _ _) (by intro u hu; simp at hu; subst hu; rfl) (by omega) (by rw [unhide HXS]; omega) cs (unhide HCS) ?_)
                  | fail)
                refine (unhide HAS).mono ?_
                rintro e W1 (⟨rfl, r2, hvi2, hkp2⟩ | ⟨rfl, hcon, hw⟩)
                · have HV2 := hide hvi2
                  have HK2 := hide hkp2
                  have HLK : Hid (K.length + 1 = (K ++ [i]).length) := hide (by simp)
                  clear hvi2 hkp2 c0' HAS HVK HVI HKP HRW
                  go_wp2
                  rw [unhide HLK]
                  exact ⟨⟨j + 1, K ++ [i], r2, by omega, by go_num, rfl, unhide HV2, unhide HK2⟩, by simp [intOf]; omega⟩
                · have HLK : Hid ((K ++ [i]).length = K.length + 1) := hide (by simp)
                  have HVX := hide (unhide HVK)
                  rw [← hw] at HVX
                  have HSTOP := hide (fun (V0 : World) (hV0 : Below W1.heap.size W1 V0) => (unhide HVX).stop hjl hcon hV0)
                  rw [unhide HLK] at HSTOP
                  have HG := hide (unhide HVX).row
                  have HC3 := hide (unhide HVX).q3
                  obtain ⟨y, hy⟩ := (unhide HVX).obq
                  rw [← unhide HP] at hy HSTOP
                  have HCH := hide hy
                  obtain ⟨oc, hoc⟩ := (unhide HVX).obh
                  have HOB := hide hoc
                  have HNB := hide (unhide HVX).nbg
                  have hsz := (unhide HVX).rv.sz
                  have HN1 : Hid (((V.drop (j + 1)).map (hd s.ln s.cap)).length = V.length - (j + 1)) := hide (by simp)
                  have HN3 : Hid (∀ u ∈ (V.drop (j + 1)).map (hd s.ln s.cap), u.oneCell' = true) := hide (by
                    intro u hu
                    obtain ⟨x, _, e⟩ := List.mem_map.1 hu
                    subst e; rfl)
                  have HRS := hide (unhide HVX).rv.rs
                  have HN2 : Hid (∀ q u, ((V.drop (j + 1)).map (hd s.ln s.cap))[q]? = some u → cs[j + 1 + q]? = some u) := hide (by
                    intro q u hq
                    rw [List.getElem?_map, Option.map_eq_some_iff] at hq
                    obtain ⟨x, hx, e⟩ := hq
                    rw [List.getElem?_drop] at hx
                    subst e
                    exact unhide HRS (j + 1 + q) x (by omega) hx)
                  clear c0' HAS HVK HVI HKP HRW hw hy hoc HVX HRS
                  go_wp2_with fail
                  refine viRow (ad := if c = j + 1 then 0 else j + 1) hpl hjl hvl hc63 (by omega) (by split <;> simp [*]) hsz HN1 HN2 HN3 HG HC3 HCH HOB HNB _ rfl rfl rfl rfl rfl rfl ?_
                  intro a V9 V0 hnt hdf hkeep hV0 hV9
                  have HFIN := hide (unhide HSTOP V0 hV0)
                  rw [← hV9] at HFIN
                  obtain ⟨us, rfl, hus⟩ := putAll_of [84, 85, 86, 87, 88, 89, 90, 91, 92, 93, 94, 95] hnt hdf hkeep
                  clear hnt hdf hkeep hus hV9 HSTOP hV0
                  simp only [putAll, List.foldl, Act.put, List.setIfInBounds_toArray, List.set_cons_zero, List.set_cons_succ]
                  go_wp2
                  exact bodyPost_ret (v := .bool false) (by simp [results, Try.results45, go_sem]) rfl (unhide HFIN)
      · have hje : j = V.length := by omega
        subst hje
        have q3 := hvi.q3
        obtain ⟨y, hy⟩ := hvi.obq
        have hf := hvi.obf
        have HE := hide (hvi.end hkp)
        rw [← unhide HP] at hy hf HE
        have j1 : ¬ ((V.length : Int) < (V.length : Int)) := by omega
        clear hvi hkp
        go_wp2
        exact bodyPost_ret (v := .bool true) (by simp [results, Try.results45, go_sem]) rfl (unhide HE)
end Go.Proofs.Ytonfbnbkhpabbaa
