/- Parts of the proof: NS2 to NE1. -/
import Derived.Test.YtddlokkejglckaaGreatDoorMND5
import Derived.Test.YtddlokkejglckaaGreatDoorMTK0
import Derived.Lib.OthersKept
import Derived.Laws.RangeAny
namespace Go.Proofs.YtddlokkejglckaaGreatDoor
open Go.RowKit
set_option maxHeartbeats 400000
set_option maxRecDepth 100000
set_option linter.unusedVariables false
theorem u8x {c d : UInt8} (h : c ≠ d) : ((c.toNat : Int) == (d.toNat : Int)) = false := by
 rw [beq_eq_false_iff_ne]; intro e; apply h; rw [← UInt8.toNat_inj]; exact Int.ofNat.inj e
set_option maxRecDepth 100000 in
theorem sNum1a (s : ByteArray) (a D : Nat) (w : World) (hs : s.size ≤ 1000000) (ha : a ≤ s.size) (hD : Nb.runE Nb.digB (L s) a = D) (h1 : D = a) :
   Calls Tryz.prog 74 #[.string s, .int .i64 a] w fun e w' => e = .returned (.tuple #[.int .i64 (D : Nat), .bool (decide (a < D))]) ∧ w' = w := by
 have hl : (L s).length = s.size := L_len s
 have q1 : ((D : Int) == (a : Int)) = true := by rw [beq_iff_eq]; omega
 have g1 : D ≤ a := by omega
 have g2 : a ≤ D := by omega
 clear h1
 have HD := h_ hD
 clear hD
 go_enter Tryz.func74, Tryz.ntmps74
 go_wp2
 go_loop [6] (fun i => ∃ k : Nat, a ≤ k ∧ k ≤ s.size ∧ i = .int .i64 k ∧ Nb.runE Nb.digB (L s) a = Nb.runE Nb.digB (L s) k) (fun i => s.size - (intOf i).toNat)
 case atStart => exact ⟨a, Nat.le_refl _, ha, rfl, rfl⟩
 case round =>
   obtain ⟨k, hk1, hk2, rfl, hrun⟩ := hrel
   have HN := h_ hrun
   clear hrun
   by_cases hks : k < s.size
   · have DG := h_ (fun v => sDigit s[k] v)
     by_cases hd : Nb.digB s[k] = true
     · have HG := h_ hd
       rw [hd] at DG
       clear hd
       go_wp2_with (go_at_call 75; refine (u_ DG _).mono ?_; rintro e w' ⟨rfl, rfl⟩)
       exact ⟨⟨k + 1, by omega, by omega, by go_num, (u_ HN).trans (Nb.runE_step (by omega) (u_ HG))⟩, by simp [intOf]; omega⟩
     · have hd' : Nb.digB s[k] = false := by simpa using hd
       obtain rfl : D = k := (u_ HD).symm.trans ((u_ HN).trans (Nb.runE_stop (by omega) hd'))
       clear DG
       have DG := h_ (fun v => sDigit (s[D]'hks) v)
       rw [hd'] at DG
       clear hd hd' HN
       go_wp2_with (go_at_call 75; refine (u_ DG _).mono ?_; rintro e w' ⟨rfl, rfl⟩)
       refine bodyPost_ret (v := .tuple #[.int .i64 (D : Nat), .bool (decide (a < D))]) ?_ rfl ⟨rfl, rfl⟩
       first | (simp [results, Tryz.results74, go_sem]; done) | (simp [results, Tryz.results74, go_sem]; omega) | (simp [results, Tryz.results74, go_sem]; constructor <;> omega)
   · have hke := (u_ HD).symm.trans ((u_ HN).trans (Nb.runE_end (by omega)))
     obtain rfl : D = k := hke
     clear HN
     go_wp2
     refine bodyPost_ret (v := .tuple #[.int .i64 (D : Nat), .bool (decide (a < D))]) ?_ rfl ⟨rfl, rfl⟩
     first | (simp [results, Tryz.results74, go_sem]; done) | (simp [results, Tryz.results74, go_sem]; omega) | (simp [results, Tryz.results74, go_sem]; constructor <;> omega)
set_option maxRecDepth 100000 in
theorem sNum1b (s : ByteArray) (a D : Nat) (w : World) (hs : s.size ≤ 1000000) (ha : a ≤ s.size) (hD : Nb.runE Nb.digB (L s) a = D) (h1 : D ≠ a) (h2 : D = s.size) :
   Calls Tryz.prog 74 #[.string s, .int .i64 a] w fun e w' => e = .returned (.tuple #[.int .i64 (D : Nat), .bool (decide (a < D))]) ∧ w' = w := by
 have hl : (L s).length = s.size := L_len s
 have q1 : ((D : Int) == (a : Int)) = false := by rw [beq_eq_false_iff_ne]; omega
 have q2 : ((D : Int) == (s.size : Int)) = true := by rw [beq_iff_eq]; omega
 have g1 : D ≤ s.size := by omega
 have g2 : s.size ≤ D := by omega
 clear h2
 have HD := h_ hD
 clear hD
 go_enter Tryz.func74, Tryz.ntmps74
 go_wp2
 go_loop [6] (fun i => ∃ k : Nat, a ≤ k ∧ k ≤ s.size ∧ i = .int .i64 k ∧ Nb.runE Nb.digB (L s) a = Nb.runE Nb.digB (L s) k) (fun i => s.size - (intOf i).toNat)
 case atStart => exact ⟨a, Nat.le_refl _, ha, rfl, rfl⟩
 case round =>
   obtain ⟨k, hk1, hk2, rfl, hrun⟩ := hrel
   have HN := h_ hrun
   clear hrun
   by_cases hks : k < s.size
   · have DG := h_ (fun v => sDigit s[k] v)
     by_cases hd : Nb.digB s[k] = true
     · have HG := h_ hd
       rw [hd] at DG
       clear hd
       go_wp2_with (go_at_call 75; refine (u_ DG _).mono ?_; rintro e w' ⟨rfl, rfl⟩)
       exact ⟨⟨k + 1, by omega, by omega, by go_num, (u_ HN).trans (Nb.runE_step (by omega) (u_ HG))⟩, by simp [intOf]; omega⟩
     · have hd' : Nb.digB s[k] = false := by simpa using hd
       obtain rfl : D = k := (u_ HD).symm.trans ((u_ HN).trans (Nb.runE_stop (by omega) hd'))
       clear DG
       omega
   · have hke := (u_ HD).symm.trans ((u_ HN).trans (Nb.runE_end (by omega)))
     obtain rfl : D = k := hke
     clear HN
     go_wp2
     refine bodyPost_ret (v := .tuple #[.int .i64 (D : Nat), .bool (decide (a < D))]) ?_ rfl ⟨rfl, rfl⟩
     first | (simp [results, Tryz.results74, go_sem]; done) | (simp [results, Tryz.results74, go_sem]; omega) | (simp [results, Tryz.results74, go_sem]; constructor <;> omega)
set_option maxRecDepth 100000 in
theorem sNum1c (s : ByteArray) (a D : Nat) (w : World) (hs : s.size ≤ 1000000) (ha : a ≤ s.size) (hD : Nb.runE Nb.digB (L s) a = D) (h1 : D ≠ a) (h2 : D < s.size) (h39 : s[D] ≠ 39) :
   Calls Tryz.prog 74 #[.string s, .int .i64 a] w fun e w' => e = .returned (.tuple #[.int .i64 (D : Nat), .bool (decide (a < D))]) ∧ w' = w := by
 have hl : (L s).length = s.size := L_len s
 have q1 : ((D : Int) == (a : Int)) = false := by rw [beq_eq_false_iff_ne]; omega
 have q2 : ((D : Int) == (s.size : Int)) = false := by rw [beq_eq_false_iff_ne]; omega
 have q3 : ((s[D].toNat : Int) != 39) = true := by rw [bne_iff_ne]; exact (beq_eq_false_iff_ne.1 (u8x h39))
 clear h39
 have HD := h_ hD
 clear hD
 go_enter Tryz.func74, Tryz.ntmps74
 go_wp2
 go_loop [6] (fun i => ∃ k : Nat, a ≤ k ∧ k ≤ s.size ∧ i = .int .i64 k ∧ Nb.runE Nb.digB (L s) a = Nb.runE Nb.digB (L s) k) (fun i => s.size - (intOf i).toNat)
 case atStart => exact ⟨a, Nat.le_refl _, ha, rfl, rfl⟩
 case round =>
   obtain ⟨k, hk1, hk2, rfl, hrun⟩ := hrel
   have HN := h_ hrun
   clear hrun
   by_cases hks : k < s.size
   · have DG := h_ (fun v => sDigit s[k] v)
     by_cases hd : Nb.digB s[k] = true
     · have HG := h_ hd
       rw [hd] at DG
       clear hd
       go_wp2_with (go_at_call 75; refine (u_ DG _).mono ?_; rintro e w' ⟨rfl, rfl⟩)
       exact ⟨⟨k + 1, by omega, by omega, by go_num, (u_ HN).trans (Nb.runE_step (by omega) (u_ HG))⟩, by simp [intOf]; omega⟩
     · have hd' : Nb.digB s[k] = false := by simpa using hd
       obtain rfl : D = k := (u_ HD).symm.trans ((u_ HN).trans (Nb.runE_stop (by omega) hd'))
       clear DG
       have DG := h_ (fun v => sDigit (s[D]'hks) v)
       rw [hd'] at DG
       clear hd hd' HN
       go_wp2_with (go_at_call 75; refine (u_ DG _).mono ?_; rintro e w' ⟨rfl, rfl⟩)
       refine bodyPost_ret (v := .tuple #[.int .i64 (D : Nat), .bool (decide (a < D))]) ?_ rfl ⟨rfl, rfl⟩
       first | (simp [results, Tryz.results74, go_sem]; done) | (simp [results, Tryz.results74, go_sem]; omega) | (simp [results, Tryz.results74, go_sem]; constructor <;> omega)
   · have hke := (u_ HD).symm.trans ((u_ HN).trans (Nb.runE_end (by omega)))
     omega
set_option maxRecDepth 100000 in
theorem sNum4a (s : ByteArray) (a D : Nat) (w : World) (hs : s.size ≤ 1000000) (ha : a ≤ s.size) (hD : Nb.runE Nb.digB (L s) a = D) (h1 : D ≠ a) (h2 : D < s.size) (h2b : s.size ≤ D + 1) (h39 : s[D]'(by omega) = 39) :
   Calls Tryz.prog 74 #[.string s, .int .i64 a] w fun e w' => e = .returned (.tuple #[.int .i64 (D + 1 : Nat), .bool false]) ∧ w' = w := by
 have hl : (L s).length = s.size := L_len s
 have q1 : ((D : Int) == (a : Int)) = false := by rw [beq_eq_false_iff_ne]; omega
 have q2 : ((D : Int) == (s.size : Int)) = false := by rw [beq_eq_false_iff_ne]; omega
 have q4 : (((D : Int) + 1) == (s.size : Int)) = true := by rw [beq_iff_eq]; omega
 have q5 : ¬ (D : Int) + 1 < s.size := by omega
 have HD := h_ hD
 clear hD
 go_enter Tryz.func74, Tryz.ntmps74
 go_wp2
 go_loop [6] (fun i => ∃ k : Nat, a ≤ k ∧ k ≤ s.size ∧ i = .int .i64 k ∧ Nb.runE Nb.digB (L s) a = Nb.runE Nb.digB (L s) k) (fun i => s.size - (intOf i).toNat)
 case atStart => exact ⟨a, Nat.le_refl _, ha, rfl, rfl⟩
 case round =>
   obtain ⟨k, hk1, hk2, rfl, hrun⟩ := hrel
   have HN := h_ hrun
   clear hrun
   by_cases hks : k < s.size
   · have DG := h_ (fun v => sDigit s[k] v)
     by_cases hd : Nb.digB s[k] = true
     · have HG := h_ hd
       rw [hd] at DG
       clear hd
       go_wp2_with (go_at_call 75; refine (u_ DG _).mono ?_; rintro e w' ⟨rfl, rfl⟩)
       exact ⟨⟨k + 1, by omega, by omega, by go_num, (u_ HN).trans (Nb.runE_step (by omega) (u_ HG))⟩, by simp [intOf]; omega⟩
     · have hd' : Nb.digB s[k] = false := by simpa using hd
       obtain rfl : D = k := (u_ HD).symm.trans ((u_ HN).trans (Nb.runE_stop (by omega) hd'))
       clear DG
       have DG : Hid (∀ v, Calls Tryz.prog 75 #[.int .u8 39] v fun e w' => e = .returned (.bool false) ∧ w' = v) := fun v => sDigit 39 v
       clear hd hd' HN
       go_wp2_with (go_at_call 75; refine (u_ DG _).mono ?_; rintro e w' ⟨rfl, rfl⟩)
       refine bodyPost_ret (v := .tuple #[.int .i64 (D + 1 : Nat), .bool false]) ?_ rfl ⟨rfl, rfl⟩
       first | (simp [results, Tryz.results74, go_sem]; done) | (simp [results, Tryz.results74, go_sem]; omega) | (simp [results, Tryz.results74, go_sem]; constructor <;> omega)
   · have hke := (u_ HD).symm.trans ((u_ HN).trans (Nb.runE_end (by omega)))
     omega
set_option maxRecDepth 100000 in
theorem sNum4b (s : ByteArray) (a D : Nat) (w : World) (hs : s.size ≤ 1000000) (ha : a ≤ s.size) (hD : Nb.runE Nb.digB (L s) a = D) (h1 : D ≠ a) (h2 : D + 1 < s.size) (h39 : s[D]'(by omega) = 39) (h115 : s[D + 1] ≠ 115) (hb : Nb.baseB s[D + 1] = false) :
   Calls Tryz.prog 74 #[.string s, .int .i64 a] w fun e w' => e = .returned (.tuple #[.int .i64 (D + 1 : Nat), .bool false]) ∧ w' = w := by
 have hl : (L s).length = s.size := L_len s
 have q1 : ((D : Int) == (a : Int)) = false := by rw [beq_eq_false_iff_ne]; omega
 have q2 : ((D : Int) == (s.size : Int)) = false := by rw [beq_eq_false_iff_ne]; omega
 have q3 : ((s[D + 1].toNat : Int) == 115) = false := u8x h115
 clear h115
 have q4 : (((D : Int) + 1) == (s.size : Int)) = false := by rw [beq_eq_false_iff_ne]; omega
 have q5 : (D : Int) + 1 < s.size := by omega
 have BS := h_ (fun v => sBase s[D + 1] v)
 rw [hb] at BS
 clear hb
 have HD := h_ hD
 clear hD
 go_enter Tryz.func74, Tryz.ntmps74
 go_wp2
 go_loop [6] (fun i => ∃ k : Nat, a ≤ k ∧ k ≤ s.size ∧ i = .int .i64 k ∧ Nb.runE Nb.digB (L s) a = Nb.runE Nb.digB (L s) k) (fun i => s.size - (intOf i).toNat)
 case atStart => exact ⟨a, Nat.le_refl _, ha, rfl, rfl⟩
 case round =>
   obtain ⟨k, hk1, hk2, rfl, hrun⟩ := hrel
   have HN := h_ hrun
   clear hrun
   by_cases hks : k < s.size
   · have DG := h_ (fun v => sDigit s[k] v)
     by_cases hd : Nb.digB s[k] = true
     · have HG := h_ hd
       rw [hd] at DG
       clear hd
       go_wp2_with (go_at_call 75; refine (u_ DG _).mono ?_; rintro e w' ⟨rfl, rfl⟩)
       exact ⟨⟨k + 1, by omega, by omega, by go_num, (u_ HN).trans (Nb.runE_step (by omega) (u_ HG))⟩, by simp [intOf]; omega⟩
     · have hd' : Nb.digB s[k] = false := by simpa using hd
       obtain rfl : D = k := (u_ HD).symm.trans ((u_ HN).trans (Nb.runE_stop (by omega) hd'))
       clear DG
       have DG : Hid (∀ v, Calls Tryz.prog 75 #[.int .u8 39] v fun e w' => e = .returned (.bool false) ∧ w' = v) := fun v => sDigit 39 v
       clear hd hd' HN
       go_wp2_with (first | (go_at_call 75; refine (u_ DG _).mono ?_; rintro e w' ⟨rfl, rfl⟩) | (go_at_call 91; refine (u_ BS _).mono ?_; rintro e w' ⟨rfl, rfl⟩))
       refine bodyPost_ret (v := .tuple #[.int .i64 (D + 1 : Nat), .bool false]) ?_ rfl ⟨rfl, rfl⟩
       first | (simp [results, Tryz.results74, go_sem]; done) | (simp [results, Tryz.results74, go_sem]; omega) | (simp [results, Tryz.results74, go_sem]; constructor <;> omega)
   · have hke := (u_ HD).symm.trans ((u_ HN).trans (Nb.runE_end (by omega)))
     omega
set_option maxRecDepth 100000 in
theorem sNum5 (s : ByteArray) (a D E : Nat) (w : World) (hs : s.size ≤ 1000000) (ha : a ≤ s.size) (hD : Nb.runE Nb.digB (L s) a = D) (h1 : D ≠ a) (h2 : D + 1 < s.size) (h39 : s[D]'(by omega) = 39) (h115 : s[D + 1] ≠ 115) (hb : Nb.baseB s[D + 1] = true) (hE : Nb.runE Nb.valB (L s) (D + 2) = E) :
   Calls Tryz.prog 74 #[.string s, .int .i64 a] w fun e w' => e = .returned (.tuple #[.int .i64 (E : Nat), .bool (decide (D + 2 < E))]) ∧ w' = w := by
 have hl : (L s).length = s.size := L_len s
 have q1 : ((D : Int) == (a : Int)) = false := by rw [beq_eq_false_iff_ne]; omega
 have q2 : ((D : Int) == (s.size : Int)) = false := by rw [beq_eq_false_iff_ne]; omega
 have q3 : ((s[D + 1].toNat : Int) == 115) = false := u8x h115
 clear h115
 have q4 : (((D : Int) + 1) == (s.size : Int)) = false := by rw [beq_eq_false_iff_ne]; omega
 have q5 : (D : Int) + 1 < s.size := by omega
 have BS := h_ (fun v => sBase s[D + 1] v)
 rw [hb] at BS
 clear hb
 have HE := h_ hE
 clear hE
 have HD := h_ hD
 clear hD
 go_enter Tryz.func74, Tryz.ntmps74
 go_wp2
 go_loop [6] (fun i => ∃ k : Nat, a ≤ k ∧ k ≤ s.size ∧ i = .int .i64 k ∧ Nb.runE Nb.digB (L s) a = Nb.runE Nb.digB (L s) k) (fun i => s.size - (intOf i).toNat)
 case atStart => exact ⟨a, Nat.le_refl _, ha, rfl, rfl⟩
 case round =>
   obtain ⟨k, hk1, hk2, rfl, hrun⟩ := hrel
   have HN := h_ hrun
   clear hrun
   by_cases hks : k < s.size
   · have DG := h_ (fun v => sDigit s[k] v)
     by_cases hd : Nb.digB s[k] = true
     · have HG := h_ hd
       rw [hd] at DG
       clear hd
       go_wp2_with (go_at_call 75; refine (u_ DG _).mono ?_; rintro e w' ⟨rfl, rfl⟩)
       exact ⟨⟨k + 1, by omega, by omega, by go_num, (u_ HN).trans (Nb.runE_step (by omega) (u_ HG))⟩, by simp [intOf]; omega⟩
     · have hd' : Nb.digB s[k] = false := by simpa using hd
       obtain rfl : D = k := (u_ HD).symm.trans ((u_ HN).trans (Nb.runE_stop (by omega) hd'))
       clear DG
       have DG : Hid (∀ v, Calls Tryz.prog 75 #[.int .u8 39] v fun e w' => e = .returned (.bool false) ∧ w' = v) := fun v => sDigit 39 v
       clear hd hd' HN
       go_wp2_with (first | (go_at_call 75; refine (u_ DG _).mono ?_; rintro e w' ⟨rfl, rfl⟩) | (go_at_call 91; refine (u_ BS _).mono ?_; rintro e w' ⟨rfl, rfl⟩))
       go_loop [6] (fun i => ∃ m : Nat, D + 2 ≤ m ∧ m ≤ s.size ∧ i = .int .i64 m ∧ Nb.runE Nb.valB (L s) (D + 2) = Nb.runE Nb.valB (L s) m) (fun i => s.size - (intOf i).toNat)
       case atStart => exact ⟨D + 2, Nat.le_refl _, by omega, by go_num, rfl⟩
       case round =>
         obtain ⟨m, hm1, hm2, rfl, hrun⟩ := hrel
         have HN2 := h_ hrun
         clear hrun
         by_cases hms : m < s.size
         · have VL := h_ (fun v => sValue s[m] v)
           by_cases hv : Nb.valB s[m] = true
           · have HV := h_ hv
             rw [hv] at VL
             clear hv
             go_wp2_with (go_at_call 92; refine (u_ VL _).mono ?_; rintro e w' ⟨rfl, rfl⟩)
             exact ⟨⟨m + 1, by omega, by omega, by go_num, (u_ HN2).trans (Nb.runE_step (by omega) (u_ HV))⟩, by simp [intOf]; omega⟩
           · have hv' : Nb.valB s[m] = false := by simpa using hv
             rw [hv'] at VL
             obtain rfl : E = m := (u_ HE).symm.trans ((u_ HN2).trans (Nb.runE_stop (by omega) hv'))
             clear hv hv' HN2
             go_wp2_with (go_at_call 92; refine (u_ VL _).mono ?_; rintro e w' ⟨rfl, rfl⟩)
             refine bodyPost_ret (v := .tuple #[.int .i64 (E : Nat), .bool (decide (D + 2 < E))]) ?_ rfl ⟨rfl, rfl⟩
             first | (simp [results, Tryz.results74, go_sem]; done) | (simp [results, Tryz.results74, go_sem]; omega) | (simp [results, Tryz.results74, go_sem]; constructor <;> omega)
         · obtain rfl : E = m := (u_ HE).symm.trans ((u_ HN2).trans (Nb.runE_end (by omega)))
           clear HN2
           go_wp2
           refine bodyPost_ret (v := .tuple #[.int .i64 (E : Nat), .bool (decide (D + 2 < E))]) ?_ rfl ⟨rfl, rfl⟩
           first | (simp [results, Tryz.results74, go_sem]; done) | (simp [results, Tryz.results74, go_sem]; omega) | (simp [results, Tryz.results74, go_sem]; constructor <;> omega)
   · have hke := (u_ HD).symm.trans ((u_ HN).trans (Nb.runE_end (by omega)))
     omega
set_option maxRecDepth 100000 in
theorem sNum2a (s : ByteArray) (a D : Nat) (w : World) (hs : s.size ≤ 1000000) (ha : a ≤ s.size) (hD : Nb.runE Nb.digB (L s) a = D) (h1 : D ≠ a) (h2 : D + 1 < s.size) (h2b : s.size ≤ D + 2) (h39 : s[D]'(by omega) = 39) (h115 : s[D + 1]'(by omega) = 115) :
   Calls Tryz.prog 74 #[.string s, .int .i64 a] w fun e w' => e = .returned (.tuple #[.int .i64 (D + 2 : Nat), .bool false]) ∧ w' = w := by
 have hl : (L s).length = s.size := L_len s
 have q1 : ((D : Int) == (a : Int)) = false := by rw [beq_eq_false_iff_ne]; omega
 have q2 : ((D : Int) == (s.size : Int)) = false := by rw [beq_eq_false_iff_ne]; omega
 have q4 : (((D : Int) + 1) == (s.size : Int)) = false := by rw [beq_eq_false_iff_ne]; omega
 have q5 : (D : Int) + 1 < s.size := by omega
 have q6 : (((D : Int) + 1 + 1) == (s.size : Int)) = true := by rw [beq_iff_eq]; omega
 have HD := h_ hD
 clear hD
 go_enter Tryz.func74, Tryz.ntmps74
 go_wp2
 go_loop [6] (fun i => ∃ k : Nat, a ≤ k ∧ k ≤ s.size ∧ i = .int .i64 k ∧ Nb.runE Nb.digB (L s) a = Nb.runE Nb.digB (L s) k) (fun i => s.size - (intOf i).toNat)
 case atStart => exact ⟨a, Nat.le_refl _, ha, rfl, rfl⟩
 case round =>
   obtain ⟨k, hk1, hk2, rfl, hrun⟩ := hrel
   have HN := h_ hrun
   clear hrun
   by_cases hks : k < s.size
   · have DG := h_ (fun v => sDigit s[k] v)
     by_cases hd : Nb.digB s[k] = true
     · have HG := h_ hd
       rw [hd] at DG
       clear hd
       go_wp2_with (go_at_call 75; refine (u_ DG _).mono ?_; rintro e w' ⟨rfl, rfl⟩)
       exact ⟨⟨k + 1, by omega, by omega, by go_num, (u_ HN).trans (Nb.runE_step (by omega) (u_ HG))⟩, by simp [intOf]; omega⟩
     · have hd' : Nb.digB s[k] = false := by simpa using hd
       obtain rfl : D = k := (u_ HD).symm.trans ((u_ HN).trans (Nb.runE_stop (by omega) hd'))
       clear DG
       have DG : Hid (∀ v, Calls Tryz.prog 75 #[.int .u8 39] v fun e w' => e = .returned (.bool false) ∧ w' = v) := fun v => sDigit 39 v
       clear hd hd' HN
       go_wp2_with (go_at_call 75; refine (u_ DG _).mono ?_; rintro e w' ⟨rfl, rfl⟩)
       refine bodyPost_ret (v := .tuple #[.int .i64 (D + 2 : Nat), .bool false]) ?_ rfl ⟨rfl, rfl⟩
       first | (simp [results, Tryz.results74, go_sem]; done) | (simp [results, Tryz.results74, go_sem]; omega) | (simp [results, Tryz.results74, go_sem]; constructor <;> omega)
   · have hke := (u_ HD).symm.trans ((u_ HN).trans (Nb.runE_end (by omega)))
     omega
set_option maxRecDepth 100000 in
theorem sNum2b (s : ByteArray) (a D : Nat) (w : World) (hs : s.size ≤ 1000000) (ha : a ≤ s.size) (hD : Nb.runE Nb.digB (L s) a = D) (h1 : D ≠ a) (h2 : D + 1 + 1 < s.size) (h39 : s[D]'(by omega) = 39) (h115 : s[D + 1]'(by omega) = 115) (hb : Nb.baseB s[D + 1 + 1] = false) :
   Calls Tryz.prog 74 #[.string s, .int .i64 a] w fun e w' => e = .returned (.tuple #[.int .i64 (D + 2 : Nat), .bool false]) ∧ w' = w := by
 have hl : (L s).length = s.size := L_len s
 have q1 : ((D : Int) == (a : Int)) = false := by rw [beq_eq_false_iff_ne]; omega
 have q2 : ((D : Int) == (s.size : Int)) = false := by rw [beq_eq_false_iff_ne]; omega
 have q4 : (((D : Int) + 1) == (s.size : Int)) = false := by rw [beq_eq_false_iff_ne]; omega
 have q5 : (D : Int) + 1 < s.size := by omega
 have q6 : (((D : Int) + 1 + 1) == (s.size : Int)) = false := by rw [beq_eq_false_iff_ne]; omega
 have BS := h_ (fun v => sBase (s[D + 1 + 1]'h2) v)
 rw [hb] at BS
 clear hb
 have HD := h_ hD
 clear hD
 go_enter Tryz.func74, Tryz.ntmps74
 go_wp2
 go_loop [6] (fun i => ∃ k : Nat, a ≤ k ∧ k ≤ s.size ∧ i = .int .i64 k ∧ Nb.runE Nb.digB (L s) a = Nb.runE Nb.digB (L s) k) (fun i => s.size - (intOf i).toNat)
 case atStart => exact ⟨a, Nat.le_refl _, ha, rfl, rfl⟩
 case round =>
   obtain ⟨k, hk1, hk2, rfl, hrun⟩ := hrel
   have HN := h_ hrun
   clear hrun
   by_cases hks : k < s.size
   · have DG := h_ (fun v => sDigit s[k] v)
     by_cases hd : Nb.digB s[k] = true
     · have HG := h_ hd
       rw [hd] at DG
       clear hd
       go_wp2_with (go_at_call 75; refine (u_ DG _).mono ?_; rintro e w' ⟨rfl, rfl⟩)
       exact ⟨⟨k + 1, by omega, by omega, by go_num, (u_ HN).trans (Nb.runE_step (by omega) (u_ HG))⟩, by simp [intOf]; omega⟩
     · have hd' : Nb.digB s[k] = false := by simpa using hd
       obtain rfl : D = k := (u_ HD).symm.trans ((u_ HN).trans (Nb.runE_stop (by omega) hd'))
       clear DG
       have DG : Hid (∀ v, Calls Tryz.prog 75 #[.int .u8 39] v fun e w' => e = .returned (.bool false) ∧ w' = v) := fun v => sDigit 39 v
       clear hd hd' HN
       go_wp2_with (first | (go_at_call 75; refine (u_ DG _).mono ?_; rintro e w' ⟨rfl, rfl⟩) | (go_at_call 91; refine (u_ BS _).mono ?_; rintro e w' ⟨rfl, rfl⟩))
       refine bodyPost_ret (v := .tuple #[.int .i64 (D + 2 : Nat), .bool false]) ?_ rfl ⟨rfl, rfl⟩
       first | (simp [results, Tryz.results74, go_sem]; done) | (simp [results, Tryz.results74, go_sem]; omega) | (simp [results, Tryz.results74, go_sem]; constructor <;> omega)
   · have hke := (u_ HD).symm.trans ((u_ HN).trans (Nb.runE_end (by omega)))
     omega
set_option maxRecDepth 100000 in
theorem sNum3 (s : ByteArray) (a D E : Nat) (w : World) (hs : s.size ≤ 1000000) (ha : a ≤ s.size) (hD : Nb.runE Nb.digB (L s) a = D) (h1 : D ≠ a) (h2 : D + 1 + 1 < s.size) (h39 : s[D]'(by omega) = 39) (h115 : s[D + 1]'(by omega) = 115) (hb : Nb.baseB s[D + 1 + 1] = true) (hE : Nb.runE Nb.valB (L s) (D + 3) = E) :
   Calls Tryz.prog 74 #[.string s, .int .i64 a] w fun e w' => e = .returned (.tuple #[.int .i64 (E : Nat), .bool (decide (D + 3 < E))]) ∧ w' = w := by
 have hl : (L s).length = s.size := L_len s
 have q1 : ((D : Int) == (a : Int)) = false := by rw [beq_eq_false_iff_ne]; omega
 have q2 : ((D : Int) == (s.size : Int)) = false := by rw [beq_eq_false_iff_ne]; omega
 have q4 : (((D : Int) + 1) == (s.size : Int)) = false := by rw [beq_eq_false_iff_ne]; omega
 have q5 : (D : Int) + 1 < s.size := by omega
 have q6 : (((D : Int) + 1 + 1) == (s.size : Int)) = false := by rw [beq_eq_false_iff_ne]; omega
 have BS := h_ (fun v => sBase (s[D + 1 + 1]'h2) v)
 rw [hb] at BS
 clear hb
 have HE := h_ hE
 clear hE
 have HD := h_ hD
 clear hD
 go_enter Tryz.func74, Tryz.ntmps74
 go_wp2
 go_loop [6] (fun i => ∃ k : Nat, a ≤ k ∧ k ≤ s.size ∧ i = .int .i64 k ∧ Nb.runE Nb.digB (L s) a = Nb.runE Nb.digB (L s) k) (fun i => s.size - (intOf i).toNat)
 case atStart => exact ⟨a, Nat.le_refl _, ha, rfl, rfl⟩
 case round =>
   obtain ⟨k, hk1, hk2, rfl, hrun⟩ := hrel
   have HN := h_ hrun
   clear hrun
   by_cases hks : k < s.size
   · have DG := h_ (fun v => sDigit s[k] v)
     by_cases hd : Nb.digB s[k] = true
     · have HG := h_ hd
       rw [hd] at DG
       clear hd
       go_wp2_with (go_at_call 75; refine (u_ DG _).mono ?_; rintro e w' ⟨rfl, rfl⟩)
       exact ⟨⟨k + 1, by omega, by omega, by go_num, (u_ HN).trans (Nb.runE_step (by omega) (u_ HG))⟩, by simp [intOf]; omega⟩
     · have hd' : Nb.digB s[k] = false := by simpa using hd
       obtain rfl : D = k := (u_ HD).symm.trans ((u_ HN).trans (Nb.runE_stop (by omega) hd'))
       clear DG
       have DG : Hid (∀ v, Calls Tryz.prog 75 #[.int .u8 39] v fun e w' => e = .returned (.bool false) ∧ w' = v) := fun v => sDigit 39 v
       clear hd hd' HN
       go_wp2_with (first | (go_at_call 75; refine (u_ DG _).mono ?_; rintro e w' ⟨rfl, rfl⟩) | (go_at_call 91; refine (u_ BS _).mono ?_; rintro e w' ⟨rfl, rfl⟩))
       go_loop [6] (fun i => ∃ m : Nat, D + 3 ≤ m ∧ m ≤ s.size ∧ i = .int .i64 m ∧ Nb.runE Nb.valB (L s) (D + 3) = Nb.runE Nb.valB (L s) m) (fun i => s.size - (intOf i).toNat)
       case atStart => exact ⟨D + 3, Nat.le_refl _, by omega, by go_num, rfl⟩
       case round =>
         obtain ⟨m, hm1, hm2, rfl, hrun⟩ := hrel
         have HN2 := h_ hrun
         clear hrun
         by_cases hms : m < s.size
         · have VL := h_ (fun v => sValue s[m] v)
           by_cases hv : Nb.valB s[m] = true
           · have HV := h_ hv
             rw [hv] at VL
             clear hv
             go_wp2_with (go_at_call 92; refine (u_ VL _).mono ?_; rintro e w' ⟨rfl, rfl⟩)
             exact ⟨⟨m + 1, by omega, by omega, by go_num, (u_ HN2).trans (Nb.runE_step (by omega) (u_ HV))⟩, by simp [intOf]; omega⟩
           · have hv' : Nb.valB s[m] = false := by simpa using hv
             rw [hv'] at VL
             obtain rfl : E = m := (u_ HE).symm.trans ((u_ HN2).trans (Nb.runE_stop (by omega) hv'))
             clear hv hv' HN2
             go_wp2_with (go_at_call 92; refine (u_ VL _).mono ?_; rintro e w' ⟨rfl, rfl⟩)
             refine bodyPost_ret (v := .tuple #[.int .i64 (E : Nat), .bool (decide (D + 3 < E))]) ?_ rfl ⟨rfl, rfl⟩
             first | (simp [results, Tryz.results74, go_sem]; done) | (simp [results, Tryz.results74, go_sem]; omega) | (simp [results, Tryz.results74, go_sem]; constructor <;> omega)
         · obtain rfl : E = m := (u_ HE).symm.trans ((u_ HN2).trans (Nb.runE_end (by omega)))
           clear HN2
           go_wp2
           refine bodyPost_ret (v := .tuple #[.int .i64 (E : Nat), .bool (decide (D + 3 < E))]) ?_ rfl ⟨rfl, rfl⟩
           first | (simp [results, Tryz.results74, go_sem]; done) | (simp [results, Tryz.results74, go_sem]; omega) | (simp [results, Tryz.results74, go_sem]; constructor <;> omega)
   · have hke := (u_ HD).symm.trans ((u_ HN).trans (Nb.runE_end (by omega)))
     omega
theorem sNumber (s : ByteArray) (a : Nat) (w : World) (hs : s.size ≤ 1000000) (ha : a ≤ s.size) :
   Calls Tryz.prog 74 #[.string s, .int .i64 a] w fun e w' => e = .returned (.tuple #[.int .i64 (Nb.numE (L s) a).1, .bool (Nb.numE (L s) a).2]) ∧ w' = w := by
 have hl : (L s).length = s.size := L_len s
 obtain ⟨D, hD⟩ : ∃ D, Nb.runE Nb.digB (L s) a = D := ⟨_, rfl⟩
 have hle : D ≤ (L s).length := by rw [← hD]; exact Nb.runE_le (by omega)
 by_cases c1 : D = a
 · rw [numE_1 hD (.inl c1)]; exact sNum1a s a D w hs ha hD c1
 by_cases c2 : D = s.size
 · rw [numE_1 hD (.inr (.inl (by omega)))]; exact sNum1b s a D w hs ha hD c1 c2
 have h0 : D < s.size := by omega
 by_cases c3 : s[D] = 39
 · have n1 : ¬ (D = a ∨ D = (L s).length ∨ (L s).getD D 0 ≠ 39) := by
     rw [← gD s D h0, c3]; simp; omega
   by_cases c4 : D + 1 < s.size
   · by_cases c5 : s[D + 1] = 115
     · have n2 : (L s).getD (D + 1) 0 = 115 := by rw [← gD s _ c4]; exact c5
       by_cases c6 : D + 1 + 1 < s.size
       · have e2 : (L s).getD (D + 2) 0 = s[D + 1 + 1] := (gD s _ c6).symm
         cases hb : Nb.baseB s[D + 1 + 1]
         · rw [numE_2 hD n1 n2 (.inr (by rw [e2]; exact hb))]; exact sNum2b s a D w hs ha hD c1 c6 c3 c5 hb
         · rw [numE_3 hD n1 n2 (by rw [e2, hb]; simp; omega)]; exact sNum3 s a D _ w hs ha hD c1 c6 c3 c5 hb rfl
       · rw [numE_2 hD n1 n2 (.inl (by omega))]; exact sNum2a s a D w hs ha hD c1 c4 (by omega) c3 c5
     · have n2 : ¬ (L s).getD (D + 1) 0 = 115 := by rw [← gD s _ c4]; exact c5
       have e2 : (L s).getD (D + 1) 0 = s[D + 1] := (gD s _ c4).symm
       cases hb : Nb.baseB s[D + 1]
       · rw [numE_4 hD n1 n2 (.inr (by rw [e2]; exact hb))]; exact sNum4b s a D w hs ha hD c1 c4 c3 c5 hb
       · rw [numE_5 hD n1 n2 (by rw [e2, hb]; simp; omega)]; exact sNum5 s a D _ w hs ha hD c1 c4 c3 c5 hb rfl
   · have n2 : ¬ (L s).getD (D + 1) 0 = 115 := by
       rw [List.getD_eq_getElem?_getD, List.getElem?_eq_none (by omega)]; decide
     rw [numE_4 hD n1 n2 (.inl (by omega))]; exact sNum4a s a D w hs ha hD c1 h0 (by omega) c3
 · rw [numE_1 hD (.inr (.inr (by rw [← gD s D h0]; exact c3)))]; exact sNum1c s a D w hs ha hD c1 h0 c3
theorem sLetter (c : UInt8) (w : World) : Calls Tryz.prog 90 #[.int .u8 (c.toNat : Int)] w fun e w' => e = .returned (.bool (Nb.letB c)) ∧ w' = w := by
 have hd : Nb.letB c = ((decide ((97 : Int) ≤ (c.toNat : Int)) && decide ((c.toNat : Int) ≤ 122)) || (decide ((65 : Int) ≤ (c.toNat : Int)) && decide ((c.toNat : Int) ≤ 90)) || ((c.toNat : Int) == 95)) := by
   unfold Nb.letB; rw [u8_le, u8_le, u8_le, u8_le, u8b]; rfl
 rw [hd]
 generalize (c.toNat : Int) = n
 go_enter Tryz.func90, Tryz.ntmps90
 go_wp2
 all_goals (go_ret; exact ⟨by first | (simp_all; done) | (simp_all; omega; done) | (simp_all; rw [Bool.eq_iff_iff]; simp only [Bool.or_eq_true, Bool.and_eq_true, decide_eq_true_eq, beq_iff_eq]; omega), rfl⟩)
set_option maxRecDepth 100000 in
set_option maxHeartbeats 400000 in
theorem sRun (s : ByteArray) (a D : Nat) (w : World) (hs : s.size ≤ 1000000) (ha : a < s.size) (hc : Nb.letB s[a] = true) (hD : Nb.runE Nb.nmB (L s) (a + 1) = D) :
   Calls Tryz.prog 73 #[.string s, .int .i64 a] w fun e w' => e = .returned (.int .i64 (D : Nat)) ∧ w' = w := by
 have hl : (L s).length = s.size := L_len s
 have HD := h_ hD
 have HC := h_ hc
 clear hD hc
 go_enter Tryz.func73, Tryz.ntmps73
 go_wp2
 go_loop [5] (fun i => ∃ k : Nat, a ≤ k ∧ k ≤ s.size ∧ i = .int .i64 k ∧ (k = a ∨ (a < k ∧ Nb.runE Nb.nmB (L s) (a + 1) = Nb.runE Nb.nmB (L s) k))) (fun i => s.size - (intOf i).toNat)
 case atStart => exact ⟨a, Nat.le_refl _, Nat.le_of_lt ha, rfl, .inl rfl⟩
 case round =>
   obtain ⟨k, hk1, hk2, rfl, hrun⟩ := hrel
   rcases hrun with rfl | ⟨hgt, hrun⟩
   · have LT := h_ (fun v => sLetter s[k] v)
     rw [u_ HC] at LT
     go_wp2_with (go_at_call 90; refine (u_ LT _).mono ?_; rintro e w' ⟨rfl, rfl⟩)
     exact ⟨⟨k + 1, by omega, by omega, by go_num, .inr ⟨by omega, rfl⟩⟩, by simp [intOf]; omega⟩
   · have HN := h_ hrun
     clear hrun
     by_cases hks : k < s.size
     · have LT := h_ (fun v => sLetter s[k] v)
       have DG := h_ (fun v => sDigit s[k] v)
       by_cases h1 : Nb.letB s[k] = true
       · have HG : Hid (Nb.nmB s[k] = true) := h_ (by unfold Nb.nmB; rw [h1]; rfl)
         rw [h1] at LT
         clear h1 DG
         go_wp2_with (go_at_call 90; refine (u_ LT _).mono ?_; rintro e w' ⟨rfl, rfl⟩)
         exact ⟨⟨k + 1, by omega, by omega, by go_num, .inr ⟨by omega, (u_ HN).trans (Nb.runE_step (by omega) (u_ HG))⟩⟩, by simp [intOf]; omega⟩
       · have h1' : Nb.letB s[k] = false := by simpa using h1
         by_cases h2 : Nb.digB s[k] = true
         · have HG : Hid (Nb.nmB s[k] = true) := h_ (by unfold Nb.nmB; rw [h2, h1']; rfl)
           rw [h1'] at LT
           rw [h2] at DG
           clear h1 h1' h2
           go_wp2_with (first | (go_at_call 90; refine (u_ LT _).mono ?_; rintro e w' ⟨rfl, rfl⟩) | (go_at_call 75; refine (u_ DG _).mono ?_; rintro e w' ⟨rfl, rfl⟩))
           exact ⟨⟨k + 1, by omega, by omega, by go_num, .inr ⟨by omega, (u_ HN).trans (Nb.runE_step (by omega) (u_ HG))⟩⟩, by simp [intOf]; omega⟩
         · have h2' : Nb.digB s[k] = false := by simpa using h2
           have HG : Nb.nmB s[k] = false := by unfold Nb.nmB; rw [h2', h1']; rfl
           obtain rfl : D = k := (u_ HD).symm.trans ((u_ HN).trans (Nb.runE_stop (by omega) HG))
           rw [h1'] at LT
           rw [h2'] at DG
           clear h1 h1' h2 h2' HG HN
           go_wp2_with (first | (go_at_call 90; refine (u_ LT _).mono ?_; rintro e w' ⟨rfl, rfl⟩) | (go_at_call 75; refine (u_ DG _).mono ?_; rintro e w' ⟨rfl, rfl⟩))
           exact bodyPost_ret (v := .int .i64 (D : Nat)) (by simp [results, Tryz.results73, go_sem]) rfl ⟨rfl, rfl⟩
     · have hke := (u_ HD).symm.trans ((u_ HN).trans (Nb.runE_end (by omega)))
       obtain rfl : D = k := hke
       clear HN
       go_wp2
       exact bodyPost_ret (v := .int .i64 (D : Nat)) (by simp [results, Tryz.results73, go_sem]) rfl ⟨rfl, rfl⟩
end Go.Proofs.YtddlokkejglckaaGreatDoor
namespace Go.Proofs.YtddlokkejglckaaGreatDoor
open Go.RowKit Nt
set_option maxHeartbeats 1000000
set_option linter.unusedVariables false
set_option maxRecDepth 100000
theorem toListL (s : ByteArray) : s.toList = L s := by rw [ByteArray.toList_eq]; rfl
theorem ret_t {s : ByteArray} {m : List UInt8} {ls : List (List UInt8)} (h : (s.toList == m) = true) (hm : ls.contains m = true) : Ending.returned (.bool true) = .returned (.bool (ls.contains (L s))) := by
 have : L s = m := by rw [← toListL]; simpa using h
 rw [this, hm]
theorem ret_f {s : ByteArray} {ls : List (List UInt8)} (h : ls.contains (L s) = false) : Ending.returned (.bool false) = .returned (.bool (ls.contains (L s))) := by rw [h]
theorem sUnary (s : ByteArray) (w : World) : Calls Tryz.prog 62 #[.string s] w fun e w' => e = .returned (.bool (unL.contains (L s))) ∧ w = w' := by
 go_enter Tryz.func62, Tryz.ntmps62
 go_wp2
 all_goals first
   | (exfalso; simp_all; done)
   | (go_ret; exact ⟨ret_t (by assumption) (by decide), rfl⟩)
   | (go_ret; exact ⟨ret_f (ls := unL) (by rw [← toListL]; simp_all [unL]), rfl⟩)
theorem iUnary (s : ByteArray) (w : World) : Calls Tryz.prog 53 #[.string s] w fun e w' => e = .returned (.bool (unL.contains (L s))) ∧ w = w' := by
 go_enter Tryz.func53, Tryz.ntmps53
 go_wp2
 all_goals first
   | (exfalso; simp_all; done)
   | (go_ret; exact ⟨ret_t (by assumption) (by decide), rfl⟩)
   | (go_ret; exact ⟨ret_f (ls := unL) (by rw [← toListL]; simp_all [unL]), rfl⟩)
theorem sWord (s : ByteArray) (w : World) : Calls Tryz.prog 60 #[.string s] w fun e w' => e = .returned (.bool (wordsL.contains (L s))) ∧ w = w' := by
 go_enter Tryz.func60, Tryz.ntmps60
 go_wp2
 all_goals first
   | (exfalso; simp_all; done)
   | (go_ret; exact ⟨ret_t (by assumption) (by decide), rfl⟩)
   | (go_ret; exact ⟨ret_f (ls := wordsL) (by rw [← toListL]; simp_all [wordsL]), rfl⟩)
theorem iWord (s : ByteArray) (w : World) : Calls Tryz.prog 65 #[.string s] w fun e w' => e = .returned (.bool (wordsL.contains (L s))) ∧ w = w' := by
 go_enter Tryz.func65, Tryz.ntmps65
 go_wp2
 all_goals first
   | (exfalso; simp_all; done)
   | (go_ret; exact ⟨ret_t (by assumption) (by decide), rfl⟩)
   | (go_ret; exact ⟨ret_f (ls := wordsL) (by rw [← toListL]; simp_all [wordsL]), rfl⟩)
theorem nat_beq (a b : Nat) : ((a : Int) == (b : Int)) = (a == b) := by rw [Bool.eq_iff_iff]; simp; omega
theorem sRun0 (s : ByteArray) (w : World) (hs : s.size ≤ 1000000) (h0 : 0 < s.size) (hc : Nb.letB s[0] = false) :
   Calls Tryz.prog 73 #[.string s, .int .i64 0] w fun e w' => e = .returned (.int .i64 0) ∧ w = w' := by
 have LT := h_ (fun v => sLetter s[0] v)
 rw [hc] at LT
 clear hc
 go_enter Tryz.func73, Tryz.ntmps73
 go_wp2
 go_loop [5] (fun i => i = .int .i64 0) (fun i => 0)
 case atStart => rfl
 case round =>
   subst hrel
   go_wp2_with (go_at_call 90; refine (u_ LT _).mono ?_; rintro e w' ⟨rfl, rfl⟩)
   exact bodyPost_ret (v := .int .i64 0) (by simp [results, Tryz.results73, go_sem]) rfl ⟨rfl, rfl⟩
theorem sRunN (s : ByteArray) (w : World) (hs : s.size ≤ 1000000) (h0 : 0 < s.size) :
   Calls Tryz.prog 73 #[.string s, .int .i64 0] w fun e w' => e = .returned (.int .i64 (Nb.nameL (L s) : Nat)) ∧ w = w' := by
 have hl : (L s).length = s.size := L_len s
 cases hc : Nb.letB s[0] with
 | false =>
   have := Nb.nameL_none (l := L s) (a := 0) (by omega) hc
   rw [List.drop_zero] at this
   rw [this]
   exact sRun0 s w hs h0 hc
 | true =>
   have := Nb.nameL_run (l := L s) (a := 0) (by omega) hc
   rw [List.drop_zero, Nat.zero_add] at this
   rw [this]
   exact (sRun s 0 _ w hs h0 hc rfl).mono fun e w' ⟨h1, h2⟩ => ⟨h1, h2.symm⟩
theorem sName (s : ByteArray) (w : World) (hs : s.size ≤ maxLen) : Calls Tryz.prog 59 #[.string s] w fun e w' => e = .returned (.bool (nameB (L s))) ∧ w = w' := by
 have hl : (L s).length = s.size := L_len s
 unfold maxLen at hs
 unfold nameB
 rw [hl]
 by_cases h1 : s.size ≤ 24
 · by_cases h0 : s.size = 0
   · have he : L s = [] := List.eq_nil_of_length_eq_zero (by omega)
     have hn : s.toList = [] := by rw [toListL, he]
     rw [he]
     have hx : (decide (s.size ≤ 24) && !([] : List UInt8).isEmpty && (Nb.nameL [] == s.size)) = false := by simp
     rw [hx]
     clear hx
     go_enter Tryz.func59, Tryz.ntmps59
     go_wp2
     go_ret
     exact ⟨rfl, rfl⟩
   · have hne : (L s).isEmpty = false := by cases h : L s with | nil => rw [h] at hl; simp at hl; omega | cons => rfl
     have hn : s.toList.isEmpty = false := by rw [toListL]; exact hne
     have RN := h_ (fun v => sRunN s v (by omega) (by omega))
     rw [hne, decide_eq_true h1]
     simp only [Bool.not_false, Bool.true_and]
     have q1 : (s.size : Int) ≤ 24 := by omega
     generalize Nb.nameL (L s) = N at *
     go_enter Tryz.func59, Tryz.ntmps59
     go_wp2_with (go_at_call 73; refine (u_ RN _).mono ?_; rintro e w' ⟨rfl, rfl⟩)
     go_ret
     exact ⟨ret_bool (nat_beq N s.size), rfl⟩
 · rw [decide_eq_false h1, Bool.false_and, Bool.false_and]
   have q1 : ¬ ((s.size : Int) ≤ 24) := by omega
   go_enter Tryz.func59, Tryz.ntmps59
   go_wp2
   go_ret
   exact ⟨rfl, rfl⟩
theorem sFree (s : ByteArray) (w : World) (hs : s.size ≤ maxLen) : Calls Tryz.prog 47 #[.string s] w fun e w' => e = .returned (.bool (freeB s)) ∧ w = w' := by
 have N := h_ (fun v => sName s v hs)
 have W := h_ (fun v => sWord s v)
 unfold freeB
 cases h1 : nameB (L s) with
 | false =>
   rw [h1] at N
   clear W h1
   rw [Bool.false_and]
   go_enter Tryz.func47, Tryz.ntmps47
   go_wp2_with (go_at_call 59; refine (u_ N _).mono ?_; rintro e w' ⟨rfl, rfl⟩)
   go_ret
   exact ⟨rfl, rfl⟩
 | true =>
   rw [h1] at N
   clear h1
   rw [Bool.true_and]
   generalize wordsL.contains (L s) = b at *
   go_enter Tryz.func47, Tryz.ntmps47
   go_wp2_with (first | (go_at_call 59; refine (u_ N _).mono ?_; rintro e w' ⟨rfl, rfl⟩) | (go_at_call 60; refine (u_ W _).mono ?_; rintro e w' ⟨rfl, rfl⟩))
   go_ret
   exact ⟨rfl, rfl⟩
end Go.Proofs.YtddlokkejglckaaGreatDoor
namespace Go.Proofs.YtddlokkejglckaaGreatDoor
open Go.RowKit
set_option maxRecDepth 100000
set_option linter.unusedVariables false
def letR (n : Int) : Bool := (decide ((97 : Int) ≤ n) && decide (n ≤ 122)) || (decide ((65 : Int) ≤ n) && decide (n ≤ 90)) || (n == 95)
def digR (n : Int) : Bool := decide ((48 : Int) ≤ n) && decide (n ≤ 57)
theorem letR_u8 (c : UInt8) : letR (c.toNat : Int) = Nb.letB c := by
 unfold letR Nb.letB; rw [u8_le, u8_le, u8_le, u8_le, u8b]; rfl
theorem digR_u8 (c : UInt8) : digR (c.toNat : Int) = Nb.digB c := by
 unfold digR Nb.digB; rw [u8_le, u8_le]; rfl
theorem letR_high {n : Int} (h : 128 ≤ n) : letR n = false := by
 unfold letR
 rw [decide_eq_false (p := n ≤ 122) (by omega), decide_eq_false (p := n ≤ 90) (by omega), Bool.and_false, Bool.and_false, Bool.or_false, Bool.false_or]
 exact beq_eq_false_iff_ne.2 (by omega)
theorem digR_high {n : Int} (h : 128 ≤ n) : digR n = false := by
 unfold digR
 rw [decide_eq_false (p := n ≤ 57) (by omega), Bool.and_false]
theorem iLetter (n : Int) (w : World) : Calls Tryz.prog 94 #[.int .i32 n] w fun e w' => e = .returned (.bool (letR n)) ∧ w' = w := by
 unfold letR
 go_enter Tryz.func94, Tryz.ntmps94
 go_wp2
 all_goals (go_ret; exact ⟨by first | (simp_all; done) | (simp_all; omega; done) | (simp_all; rw [Bool.eq_iff_iff]; simp only [Bool.or_eq_true, Bool.and_eq_true, decide_eq_true_eq, beq_iff_eq]; omega), rfl⟩)
theorem iDigit (n : Int) (w : World) : Calls Tryz.prog 95 #[.int .i32 n] w fun e w' => e = .returned (.bool (digR n)) ∧ w' = w := by
 unfold digR
 go_enter Tryz.func95, Tryz.ntmps95
 go_wp2
 all_goals (go_ret; exact ⟨by first | (simp_all; done) | (simp_all; omega), rfl⟩)
theorem dec_at (s : ByteArray) (p : Nat) (h : p < s.size) : letR ((Utf8.decode s p).1 : Nat) = Nb.letB s[p] ∧ digR ((Utf8.decode s p).1 : Nat) = Nb.digB s[p] ∧ (Nb.nmB s[p] = true → (Utf8.decode s p).2 = 1) := by
 by_cases ha : s[p].toNat < 128
 · rw [decode_ascii s p h ha]
   exact ⟨letR_u8 _, digR_u8 _, fun _ => rfl⟩
 · have hh := decode_high s p h (by omega)
   have l0 : Nb.letB s[p] = false := by rw [← letR_u8]; exact letR_high (by omega)
   have d0 : Nb.digB s[p] = false := by rw [← digR_u8]; exact digR_high (by omega)
   refine ⟨by rw [l0]; exact letR_high (by omega), by rw [d0]; exact digR_high (by omega), fun hn => ?_⟩
   unfold Nb.nmB at hn
   rw [l0, d0] at hn
   cases hn
set_option maxRecDepth 100000 in
set_option maxHeartbeats 800000 in
theorem iName (s : ByteArray) (N : Nat) (w : World) (hs : s.size ≤ 1000000) (hN : Nb.nameL (L s) = N) :
   CB 81 #[.string s] w (.int .i64 (N : Nat)) := by
 have hl : (L s).length = s.size := L_len s
 have HN := h_ hN
 clear hN
 go_enter Tryz.func81, Tryz.ntmps81
 go_wp2
 go_loopw [] (fun wr => ∃ (pos : Nat), wr.heap[w.heap.size]? = some (.stringIter s pos) ∧ Below w.heap.size w wr ∧ pos ≤ s.size ∧ (pos = 0 ∨ (0 < pos ∧ N = Nb.runE Nb.nmB (L s) pos))) (fun wr => s.size - wr.iterPos w.heap.size)
 case atStart =>
   exact ⟨0, World.iter_heap w s 0, (Below.refl _ w).alloc (Nat.le_refl _) _, Nat.zero_le _, .inl rfl⟩
 case round =>
   obtain ⟨pos, hit, hbw, hps, hrun⟩ := hrel
   have hsz : w.heap.size < wr.heap.size := (Array.getElem?_eq_some_iff.1 hit).1
   by_cases hp : pos < s.size
   · obtain ⟨d1, d2, d3⟩ := dec_at s pos hp
     have hnx : ∀ ty, (Instr.next (.pointer (some ⟨w.heap.size, 0, none⟩)) true ty).run Tryz.prog wr = _ := fun ty => Lib.run_next_any_at wr w.heap.size s pos ty hit hp
     generalize hdec : Utf8.decode s pos = D at *
     obtain ⟨r, k⟩ := D
     simp only at d1 d2 d3 hnx
     have hit2 := fun q => Lib.iterAt_heap wr w.heap.size s pos q hit
     have hbw2 := fun q => Lib.below_iterAt hbw (k := w.heap.size) (Nat.le_refl _) s q
     have LT := h_ (fun v => iLetter (r : Int) v)
     have DG := h_ (fun v => iDigit (r : Int) v)
     have HIT := h_ hit
     have HIT2 := h_ hit2
     have HBW2 := h_ hbw2
     have HRUN := h_ hrun
     clear hit hit2 hbw hbw2 hdec hrun
     by_cases h1 : Nb.letB s[pos] = true
     · have hnm : Nb.nmB s[pos] = true := by unfold Nb.nmB; rw [h1]; rfl
       obtain rfl : k = 1 := d3 hnm
       rw [d1, h1] at LT
       have HX : Hid (N = Nb.runE Nb.nmB (L s) (pos + 1)) := h_ (by
         rcases u_ HRUN with rfl | ⟨_, e⟩
         · have := Nb.nameL_run (l := L s) (a := 0) (by omega) h1
           rw [List.drop_zero] at this
           rw [← u_ HN]; omega
         · rw [e]; exact Nb.runE_step (by omega) hnm)
       clear DG d1 d2 d3 h1 hnm HRUN
       go_wp2_with (go_at_call 94; refine (u_ LT _).mono ?_; rintro e v1 ⟨rfl, rfl⟩)
       go_roundw
       case rel => exact ⟨pos + 1, u_ HIT2 _, u_ HBW2 _, by omega, .inr ⟨by omega, u_ HX⟩⟩
       case measure =>
         simp only [World.iterPos, u_ HIT2 _, u_ HIT]
         omega
     · have h1' : Nb.letB s[pos] = false := by simpa using h1
       rw [d1, h1'] at LT
       by_cases h0 : pos = 0
       · subst h0
         have HX : Hid (N = 0) := h_ (by
           have := Nb.nameL_none (l := L s) (a := 0) (by omega) h1'
           rw [List.drop_zero] at this
           rw [← u_ HN, this])
         clear DG d1 d2 d3 h1 h1' HRUN
         go_wp2_with (go_at_call 94; refine (u_ LT _).mono ?_; rintro e v1 ⟨rfl, rfl⟩)
         exact bodyPost_ret (v := .int .i64 (N : Nat)) (by rw [u_ HX]; simp [results, Tryz.results81, go_sem]) rfl ⟨rfl, u_ HBW2 _⟩
       · have HR : Hid (N = Nb.runE Nb.nmB (L s) pos) := h_ (by
           rcases u_ HRUN with e | ⟨_, e⟩
           · exact absurd e h0
           · exact e)
         have q0 : ((pos : Int) == 0) = false := beq_eq_false_iff_ne.2 (by omega)
         clear HRUN h0
         by_cases h2 : Nb.digB s[pos] = true
         · have hnm : Nb.nmB s[pos] = true := by unfold Nb.nmB; rw [h2, h1']; rfl
           obtain rfl : k = 1 := d3 hnm
           rw [d2, h2] at DG
           have HX : Hid (N = Nb.runE Nb.nmB (L s) (pos + 1)) := h_ ((u_ HR).trans (Nb.runE_step (by omega) hnm))
           clear d1 d2 d3 h1 h1' h2 hnm HR
           go_wp2_with (first | (go_at_call 94; refine (u_ LT _).mono ?_; rintro e v1 ⟨rfl, rfl⟩) | (go_at_call 95; refine (u_ DG _).mono ?_; rintro e v1 ⟨rfl, rfl⟩))
           go_roundw
           case rel => exact ⟨pos + 1, u_ HIT2 _, u_ HBW2 _, by omega, .inr ⟨by omega, u_ HX⟩⟩
           case measure =>
             simp only [World.iterPos, u_ HIT2 _, u_ HIT]
             omega
         · have h2' : Nb.digB s[pos] = false := by simpa using h2
           have hnm : Nb.nmB s[pos] = false := by unfold Nb.nmB; rw [h2', h1']; rfl
           rw [d2, h2'] at DG
           obtain rfl : N = pos := (u_ HR).trans (Nb.runE_stop (by omega) hnm)
           clear d1 d2 d3 h1 h1' h2 h2' hnm HR
           go_wp2_with (first | (go_at_call 94; refine (u_ LT _).mono ?_; rintro e v1 ⟨rfl, rfl⟩) | (go_at_call 95; refine (u_ DG _).mono ?_; rintro e v1 ⟨rfl, rfl⟩))
           exact bodyPost_ret (v := .int .i64 (N : Nat)) (by simp [results, Tryz.results81, go_sem]) rfl ⟨rfl, u_ HBW2 _⟩
   · have hnx : ∀ ty, (Instr.next (.pointer (some ⟨w.heap.size, 0, none⟩)) true ty).run Tryz.prog wr = _ := fun ty => Lib.run_next_end_at wr w.heap.size s pos ty hit hp
     have hNs : N = s.size := by
       rcases hrun with e | ⟨_, e⟩
       · have h0 : L s = [] := List.eq_nil_of_length_eq_zero (by omega)
         rw [← u_ HN, h0]
         show 0 = s.size
         omega
       · rw [e, Nb.runE_end (by omega)]; omega
     have HBW := h_ hbw
     clear hrun hbw HN
     subst hNs
     go_wp2
     exact bodyPost_ret (v := .int .i64 (s.size : Nat)) (by simp [results, Tryz.results81, go_sem]) rfl ⟨rfl, u_ HBW⟩
end Go.Proofs.YtddlokkejglckaaGreatDoor
namespace Go.Proofs.YtddlokkejglckaaGreatDoor
open Go.RowKit Nt
set_option linter.unusedVariables false
set_option maxRecDepth 100000
theorem grp_t {s : ByteArray} {m : List UInt8} {g : Int} (h : (s.toList == m) = true) (hm : binL.contains m = true) (hg : 0 ≤ g) : decide (0 ≤ g) = binL.contains (L s) := by
 have : L s = m := by rw [← toListL]; simpa using h
 rw [this, hm, decide_eq_true hg]
set_option maxHeartbeats 1000000 in
theorem sGroup (s : ByteArray) (w : World) : Calls Tryz.prog 63 #[.string s] w fun e w' => (∃ g : Int, e = .returned (.int .i64 g) ∧ decide (0 ≤ g) = binL.contains (L s)) ∧ w = w' := by
 go_enter Tryz.func63, Tryz.ntmps63
 go_wp2
 all_goals first
   | (exfalso; simp_all; done)
   | (go_ret; exact ⟨⟨_, rfl, grp_t (by assumption) (by decide) (by decide)⟩, rfl⟩)
   | (go_ret; exact ⟨⟨_, rfl, by rw [← toListL]; simp_all [binL]⟩, rfl⟩)
theorem iIsName (s : ByteArray) (w : World) (hs : s.size ≤ maxLen) : CB 64 #[.string s] w (.bool (nameB (L s))) := by
 have hl : (L s).length = s.size := L_len s
 unfold maxLen at hs
 unfold nameB
 rw [hl]
 by_cases h0 : s.size = 0
 · have he : L s = [] := List.eq_nil_of_length_eq_zero (by omega)
   have hn : s.toList = [] := by rw [toListL, he]
   rw [he]
   have hx : (decide (s.size ≤ 24) && !([] : List UInt8).isEmpty && (Nb.nameL [] == s.size)) = false := by simp
   rw [hx]
   clear hx
   go_enter Tryz.func64, Tryz.ntmps64
   go_wp2
   go_ret
   exact ⟨rfl, brf _⟩
 · have hne : (L s).isEmpty = false := by cases h : L s with | nil => rw [h] at hl; simp at hl; omega | cons => rfl
   have hn : s.toList.isEmpty = false := by rw [toListL]; exact hne
   rw [hne]
   by_cases h1 : s.size ≤ 24
   · have RN := h_ (fun v => iName s (Nb.nameL (L s)) v (by omega) rfl)
     rw [decide_eq_true h1]
     simp only [Bool.not_false, Bool.true_and]
     have q1 : (s.size : Int) ≤ 24 := by omega
     generalize Nb.nameL (L s) = N at *
     go_enter Tryz.func64, Tryz.ntmps64
     go_wp2_with (go_at_call 81; refine (u_ RN _).mono ?_; rintro e v1 ⟨rfl, hb1⟩)
     go_ret
     exact ⟨ret_bool (nat_beq N s.size), hb1⟩
   · rw [decide_eq_false h1, Bool.false_and, Bool.false_and]
     have q1 : ¬ ((s.size : Int) ≤ 24) := by omega
     go_enter Tryz.func64, Tryz.ntmps64
     go_wp2
     go_ret
     exact ⟨rfl, brf _⟩
theorem iFree (s : ByteArray) (w : World) (hs : s.size ≤ maxLen) : CB 51 #[.string s] w (.bool (freeB s)) := by
 have N := h_ (fun v => iIsName s v hs)
 have W := h_ (fun v => iWord s v)
 unfold freeB
 cases h1 : nameB (L s) with
 | false =>
   rw [h1] at N
   clear W h1
   rw [Bool.false_and]
   go_enter Tryz.func51, Tryz.ntmps51
   go_wp2_with (go_at_call 64; refine (u_ N _).mono ?_; rintro e v1 ⟨rfl, hb1⟩)
   go_ret
   exact ⟨rfl, hb1⟩
 | true =>
   rw [h1] at N
   clear h1
   rw [Bool.true_and]
   generalize wordsL.contains (L s) = b at *
   go_enter Tryz.func51, Tryz.ntmps51
   go_wp2_with (first | (go_at_call 64; refine (u_ N _).mono ?_; rintro e v1 ⟨rfl, hb1⟩) | (go_at_call 65; refine (u_ W _).mono ?_; rintro e w' ⟨rfl, rfl⟩))
   go_ret
   exact ⟨rfl, hb1⟩
def lettersL : List Nat := [116, 110, 84, 98, 66, 112, 80, 70, 115, 99, 109, 105, 83, 101]
def IsC (n : Nd) : Prop := ∀ (v : Value) (w : World) (c : Nat), c ∈ lettersL → n.text.size ≤ maxLen → RdK w n.kids v →
 CB 33 #[ndV n v, .int .u8 c] w (.bool (okIs c n))
set_option maxHeartbeats 400000 in
theorem allN (n : Nd) (ih : ∀ x ∈ n.kids, IsC x) (v : Value) (w : World) (fr c : Nat) (hc : c ∈ lettersL) (hfr : fr ≤ 2) (hr : RdK w n.kids v) :
   CB 19 #[ndV n v, .int .i64 fr, .int .u8 c] w (.bool ((n.kids.drop fr).all (okIs c))) := by
 have HP := h_ ih
 clear ih
 unfold ndV
 have HR := h_ hr
 obtain ⟨a0, c0, rfl⟩ := RdK_slice hr
 have hlen : n.kids.length ≤ 9223372036854775807 := by
   rcases RdK_cases hr with ⟨h0, _⟩ | ⟨b, o, c, vs, hvv, hn, hcs⟩
   · rw [h0]; simp
   · unfold maxLen at hn; omega
 have z1 : (w.alloc (Obj.cells #[Value.int IntKind.i64 n.kind, Value.string n.text, Value.slice a0 n.kids.length c0] 30)).cell? ⟨w.heap.size, 2, none⟩ = some (.slice a0 n.kids.length c0) := by rw [World.cell?_alloc_new]; rfl
 have HB1 : Hid (Below w.heap.size w (w.alloc (Obj.cells #[Value.int IntKind.i64 n.kind, Value.string n.text, Value.slice a0 n.kids.length c0] 30))) := h_ (bal (brf w) _)
 generalize n.kind = xk, n.text = xt at *
 go_enter Tryz.func19, Tryz.ntmps19
 go_wp2
 generalize hw1 : w.alloc (Obj.cells #[Value.int IntKind.i64 xk, Value.string xt, Value.slice a0 n.kids.length c0] 30) = w1 at *
 go_loopw [7] (fun i wr => ∃ j : Nat, i = .int .i64 j ∧ j ≤ n.kids.length + 2 ∧ Below w1.heap.size w1 wr ∧ (n.kids.drop j).all (okIs c) = (n.kids.drop fr).all (okIs c)) (fun i wr => n.kids.length + 2 - (intOf i).toNat)
 case atStart => exact ⟨fr, rfl, by omega, brf _, rfl⟩
 case round =>
   obtain ⟨j, rfl, hj, hb, hall⟩ := hrel
   have z2 := c_ hb z1
   have hbw := below_step (u_ HB1) hb
   have HB := h_ hbw
   have HA := h_ hall
   have HB0 := h_ hb
   by_cases hjn : j < n.kids.length
   · have hx : n.kids[j]? = some n.kids[j] := List.getElem?_eq_getElem hjn
     have hdr := List.drop_eq_getElem_cons hjn
     generalize n.kids[j] = x at hx hdr
     rcases RdK_cases hr with ⟨h0, _⟩ | ⟨b, o, c', vs, hvv, hn, hcs⟩
     · rw [h0] at hjn; simp at hjn
     obtain ⟨k1, k2, k3, hts, hk⟩ := hcs j x hx
     have k1' := c_ hbw k1
     have k2' := c_ hbw k2
     have k3' := c_ hbw k3
     have PX := h_ (u_ HP x (List.mem_of_getElem? hx) (vs j) wr c hc hts (RdK_later hbw hk))
     unfold ndV at PX
     obtain ⟨ha0, hc0⟩ : a0 = some ⟨b, o, none⟩ ∧ c0 = c' := by injection hvv with h1 h2 h3; exact ⟨h1, h3⟩
     subst ha0 hc0
     obtain ⟨a', c'', hv'⟩ := RdK_slice hk
     rw [hv'] at k3' PX
     rw [hdr, List.all_cons] at HA
     clear hb hbw k1 k2 k3 hk hcs hvv hr hall
     cases hok : okIs c x with
     | true =>
       rw [hok] at PX HA
       rw [Bool.true_and] at HA
       generalize x.kind = yk at *
       generalize x.text = yt at *
       go_wp2_with (go_at_call 33; refine (u_ PX).mono ?_; rintro e v1 ⟨rfl, hb1⟩)
       exact ⟨⟨j + 1, by go_num, by omega, below_step (u_ HB0) hb1, u_ HA⟩, by simp [intOf]; omega⟩
     | false =>
       rw [hok] at PX HA
       rw [Bool.false_and] at HA
       generalize x.kind = yk at *
       generalize x.text = yt at *
       go_wp2_with (go_at_call 33; refine (u_ PX).mono ?_; rintro e v1 ⟨rfl, hb1⟩)
       exact bodyPost_ret (v := .bool false) (by simp [results, Tryz.results19, go_sem]) rfl ⟨by rw [← u_ HA], below_step (u_ HB) hb1⟩
   · rw [List.drop_of_length_le (by omega)] at HA
     clear hb hbw hr hall
     go_wp2
     exact bodyPost_ret (v := .bool true) (by simp [results, Tryz.results19, go_sem]) rfl ⟨by rw [← u_ HA]; rfl, u_ HB⟩
end Go.Proofs.YtddlokkejglckaaGreatDoor
