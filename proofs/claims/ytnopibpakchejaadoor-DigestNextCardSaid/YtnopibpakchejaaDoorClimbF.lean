/- Climb. -/
import Derived.Test.YtnopibpakchejaaDoorClimb2
import Derived.Laws.ResultCell
namespace Go.Proofs.YtnopibpakchejaaDoor
open Go.RowKit

theorem results_cell_row_tmp {P : Program} {fn : Func} {p u : Tmp} {ty : TypeId} (h : fn.results = #[.cell p ty, .tmp u]) (tmps : Array Value) (w : World) (g : Nat) (t : TypeId) (cs : Array Value) (fr : Nat × Nat) (d : TypeDesc) (x : Value)
    (hp : tmps.getD p undef = .pointer (some ⟨g, 0, none⟩)) (hx : tmps.getD u undef = x) (hg : w.heap[g]? = some (.cells cs t fr))
    (hu : P.underlying ty = some d) (hd : (match d with | .struct _ | .array _ _ => true | _ => false) = true) (hi : (P.info? ty).map (·.size) = some cs.size) :
    (results fn tmps).run P w = .ok (.tuple #[.agg cs, x]) w := by
  rw [results_cell_tmp h, hp, hx]
  simp [asAddr, run_loadVar_row w g t ty cs fr d hg hu hd hi]
theorem steps_is (k n : Nat) (kk nn : Int) (w : World) (h1 : kk = k) (h2 : nn = n) (hk : k < n) (hn : n ≤ 1099511627776) :
    Calls Tryd.prog 42 #[.int .i64 kk, .int .i64 nn] w fun e w' => e = .returned (.int .i64 (stepsL k n : Nat)) ∧ w = w' := by
  subst h1 h2
  exact pathLength_any k n w hk hn

set_option maxRecDepth 10000 in
set_option maxHeartbeats 800000 in
theorem Climb_yes (d : List UInt8) (p : List (List UInt8)) (m cap k n : Nat) (a : Option Addr) (w : World) (hd : d.length = 32) (hm : m = p.length) (hs : m = stepsL k n) (hk : k < n) (hn : n ≤ 1099511627776) (hT : Tab w) (hD : D32 p) (hL : Ds w a p) (hcap : m ≤ cap) (hcap' : cap ≤ 9223372036854775807) :
    Calls Tryd.prog 22 #[dv d, .int .i64 (k : Nat), .int .i64 (n : Nat), .slice a m cap] w fun e w' => e = .returned (.tuple #[dv (climbL d k n p), .int .i64 0]) ∧ Below w.heap.size w w' := by
  have HC := hide (fun (W : World) (hW : Below w.heap.size w W) => climb_any d p m cap k n a W hd hm hs hk hn (hT.below hW) hD (hL.below hW) hcap hcap')
  have HP := hide (fun (W : World) => steps_is k n k n W rfl rfl hk hn)
  have HD := hide hd
  have HM := hide hs
  clear hd hm hs hT hD hL
  have c1 : decide ((n : Int) < 1) = false := by simp; omega
  have c2 : decide ((1099511627776 : Int) < (n : Int)) = false := by simp; omega
  have c3 : decide ((k : Int) < 0) = false := by simp
  have c4 : decide ((n : Int) ≤ (k : Int)) = false := by simp; omega
  have c5 : ((m : Int) == ((stepsL k n : Nat) : Int)) = true := by rw [HM.out]; simp
  have c6 : ((m : Int) != ((stepsL k n : Nat) : Int)) = false := by rw [HM.out]; simp
  have hv := climbL_len d k n p
  have HV := hide hv
  clear hv
  have HR1 := hide (two_new w 26 26 (bc d) z32)
  rw [← z32_eq] at HR1
  have HRG := hide (HR1.out.1.range)
  have HSZ := hide (show (Tryd.prog.info? 26).map (·.size) = some (bc d).length by rw [bc_len, HD.out]; exact Tryd.size26)
  go_enter Tryd.func22, Tryd.ntmps22
  go_wp2_with (first | (go_at_call 42; ((with_reducible refine (HP.out _).mono ?_); rintro e w' ⟨rfl, rfl⟩)) | (refine wpList_load_mid rfl 26 (.tmp 4) rfl w.heap.size 0 rfl (bc d) _ HRG.out Tryd.underlying26 rfl HSZ.out ?_))
  refine name_world ?_
  intro W1 HW1
  have HA : Hid (Blk W1 (w.heap.size + 1) 26 z32 ∧ Below w.heap.size w W1) := by
    have e : W1 = (w.alloc (.cells (bc d).toArray 26)).alloc (.cells (List.replicate 32 (.int .u8 0)).toArray 26) := HW1.out
    rw [e]
    rw [z32_eq] at HR1 ⊢
    exact hide HR1.out.2
  clear HW1 HR1 HRG HSZ c1 c2 c3 c4 c5 c6
  with_reducible refine (HC.out _ HA.out.2).mono ?_
  rintro e w2 ⟨rfl, hb2⟩
  have HR := hide (HA.out.1.below hb2 HA.out.1.lt)
  have HB := hide (below_one HA.out.2 hb2)
  clear HA hb2
  have HS := hide (dv_size _ HV.out)
  have HZ := hide (show (Tryd.prog.info? 26).map (·.size) = some ((bc (climbL d k n p)).toArray).size by rw [HS.out]; exact Tryd.size26)
  have HO := hide (all_oneCell_toArray (bc_one (climbL d k n p)))
  go_wp2_with (refine wpList_store_row rfl 26 (.tmp 8) (.tmp 38) rfl (w.heap.size + 1) _ rfl rfl 26 _ HR.out HZ.out (by rw [HS.out, List.size_toArray, z32_len]) HO.out ?_)
  refine bodyPost_ret (v := .tuple #[dv (climbL d k n p), .int .i64 0]) (results_cell_row_tmp rfl _ _ (w.heap.size + 1) 26 _ (0, 0) _ (.int .i64 0) rfl rfl (setRow_heap _ _ _ _ _ _ HR.out) Tryd.underlying26 rfl HZ.out) rfl ⟨rfl, below_setRow HB.out (by omega) _⟩

/-- No digest. -/
def zd : List UInt8 := List.replicate 32 0
theorem zd_len : zd.length = 32 := by simp [zd]
theorem zd_cells : bc zd = z32 := by unfold zd z32 bc; simp

set_option maxRecDepth 10000 in
set_option maxHeartbeats 800000 in
theorem Climb_no1 (d : List UInt8) (m cap : Nat) (k n : Int) (a : Option Addr) (w : World) (h1 : n < 1) :
    Calls Tryd.prog 22 #[dv d, .int .i64 k, .int .i64 n, .slice a m cap] w fun e w' => e = .returned (.tuple #[dv zd, .int .i64 1]) ∧ Below w.heap.size w w' := by
  have c1 : decide ((n : Int) < 1) = true := by simpa using h1
  have HR1 := hide (two_new w 26 26 (bc d) z32)
  rw [← z32_eq] at HR1
  have HZ := hide (show (Tryd.prog.info? 26).map (·.size) = some ((bc zd).toArray).size by rw [dv_size _ zd_len]; exact Tryd.size26)
  have HO := hide (all_oneCell_toArray (bc_one zd))
  go_enter Tryd.func22, Tryd.ntmps22
  go_wp2_with (first | (refine wpList_store_row rfl 26 (.tmp 8) (.tmp 33) rfl (w.heap.size + 1) (bc zd).toArray rfl rfl 26 _ HR1.out.2.1 HZ.out rfl HO.out ?_))
  refine bodyPost_ret (v := .tuple #[dv zd, .int .i64 1]) (results_cell_row_tmp rfl _ _ (w.heap.size + 1) 26 _ (0, 0) _ (.int .i64 1) rfl rfl (setRow_heap _ _ _ _ _ _ HR1.out.2.1) Tryd.underlying26 rfl HZ.out) rfl ⟨rfl, below_setRow HR1.out.2.2 (by omega) _⟩

set_option maxRecDepth 10000 in
set_option maxHeartbeats 800000 in
theorem Climb_no2 (d : List UInt8) (m cap : Nat) (k n : Int) (a : Option Addr) (w : World) (h1 : 1 ≤ n) (h2 : 1099511627776 < n) :
    Calls Tryd.prog 22 #[dv d, .int .i64 k, .int .i64 n, .slice a m cap] w fun e w' => e = .returned (.tuple #[dv zd, .int .i64 1]) ∧ Below w.heap.size w w' := by
  have c1 : decide ((n : Int) < 1) = false := by simpa using h1
  have c2 : decide ((1099511627776 : Int) < (n : Int)) = true := by simpa using h2
  have HR1 := hide (two_new w 26 26 (bc d) z32)
  rw [← z32_eq] at HR1
  have HZ := hide (show (Tryd.prog.info? 26).map (·.size) = some ((bc zd).toArray).size by rw [dv_size _ zd_len]; exact Tryd.size26)
  have HO := hide (all_oneCell_toArray (bc_one zd))
  go_enter Tryd.func22, Tryd.ntmps22
  go_wp2_with (first | (refine wpList_store_row rfl 26 (.tmp 8) (.tmp 33) rfl (w.heap.size + 1) (bc zd).toArray rfl rfl 26 _ HR1.out.2.1 HZ.out rfl HO.out ?_))
  refine bodyPost_ret (v := .tuple #[dv zd, .int .i64 1]) (results_cell_row_tmp rfl _ _ (w.heap.size + 1) 26 _ (0, 0) _ (.int .i64 1) rfl rfl (setRow_heap _ _ _ _ _ _ HR1.out.2.1) Tryd.underlying26 rfl HZ.out) rfl ⟨rfl, below_setRow HR1.out.2.2 (by omega) _⟩

set_option maxRecDepth 10000 in
set_option maxHeartbeats 800000 in
theorem Climb_no3 (d : List UInt8) (m cap : Nat) (k n : Int) (a : Option Addr) (w : World) (h1 : 1 ≤ n) (h2 : n ≤ 1099511627776) (h3 : k < 0) :
    Calls Tryd.prog 22 #[dv d, .int .i64 k, .int .i64 n, .slice a m cap] w fun e w' => e = .returned (.tuple #[dv zd, .int .i64 1]) ∧ Below w.heap.size w w' := by
  have c1 : decide ((n : Int) < 1) = false := by simpa using h1
  have c2 : decide ((1099511627776 : Int) < (n : Int)) = false := by simpa using h2
  have c3 : decide ((k : Int) < 0) = true := by simpa using h3
  have HR1 := hide (two_new w 26 26 (bc d) z32)
  rw [← z32_eq] at HR1
  have HZ := hide (show (Tryd.prog.info? 26).map (·.size) = some ((bc zd).toArray).size by rw [dv_size _ zd_len]; exact Tryd.size26)
  have HO := hide (all_oneCell_toArray (bc_one zd))
  go_enter Tryd.func22, Tryd.ntmps22
  go_wp2_with (first | (refine wpList_store_row rfl 26 (.tmp 8) (.tmp 33) rfl (w.heap.size + 1) (bc zd).toArray rfl rfl 26 _ HR1.out.2.1 HZ.out rfl HO.out ?_))
  refine bodyPost_ret (v := .tuple #[dv zd, .int .i64 1]) (results_cell_row_tmp rfl _ _ (w.heap.size + 1) 26 _ (0, 0) _ (.int .i64 1) rfl rfl (setRow_heap _ _ _ _ _ _ HR1.out.2.1) Tryd.underlying26 rfl HZ.out) rfl ⟨rfl, below_setRow HR1.out.2.2 (by omega) _⟩

set_option maxRecDepth 10000 in
set_option maxHeartbeats 800000 in
theorem Climb_no4 (d : List UInt8) (m cap : Nat) (k n : Int) (a : Option Addr) (w : World) (h1 : 1 ≤ n) (h2 : n ≤ 1099511627776) (h3 : 0 ≤ k) (h4 : n ≤ k) :
    Calls Tryd.prog 22 #[dv d, .int .i64 k, .int .i64 n, .slice a m cap] w fun e w' => e = .returned (.tuple #[dv zd, .int .i64 1]) ∧ Below w.heap.size w w' := by
  have c1 : decide ((n : Int) < 1) = false := by simpa using h1
  have c2 : decide ((1099511627776 : Int) < (n : Int)) = false := by simpa using h2
  have c3 : decide ((k : Int) < 0) = false := by simpa using h3
  have c4 : decide ((n : Int) ≤ (k : Int)) = true := by simpa using h4
  have HR1 := hide (two_new w 26 26 (bc d) z32)
  rw [← z32_eq] at HR1
  have HZ := hide (show (Tryd.prog.info? 26).map (·.size) = some ((bc zd).toArray).size by rw [dv_size _ zd_len]; exact Tryd.size26)
  have HO := hide (all_oneCell_toArray (bc_one zd))
  go_enter Tryd.func22, Tryd.ntmps22
  go_wp2_with (first | (refine wpList_store_row rfl 26 (.tmp 8) (.tmp 33) rfl (w.heap.size + 1) (bc zd).toArray rfl rfl 26 _ HR1.out.2.1 HZ.out rfl HO.out ?_))
  refine bodyPost_ret (v := .tuple #[dv zd, .int .i64 1]) (results_cell_row_tmp rfl _ _ (w.heap.size + 1) 26 _ (0, 0) _ (.int .i64 1) rfl rfl (setRow_heap _ _ _ _ _ _ HR1.out.2.1) Tryd.underlying26 rfl HZ.out) rfl ⟨rfl, below_setRow HR1.out.2.2 (by omega) _⟩

set_option maxRecDepth 10000 in
set_option maxHeartbeats 800000 in
theorem Climb_no5 (d : List UInt8) (m cap : Nat) (k n : Int) (a : Option Addr) (w : World) (k' n' : Nat) (hk : k = k') (hn : n = n') (h1 : 1 ≤ n) (h2 : n ≤ 1099511627776) (h4 : k' < n') (h5 : m ≠ stepsL k' n') :
    Calls Tryd.prog 22 #[dv d, .int .i64 k, .int .i64 n, .slice a m cap] w fun e w' => e = .returned (.tuple #[dv zd, .int .i64 1]) ∧ Below w.heap.size w w' := by
  have HP := hide (fun (W : World) => steps_is k' n' k n W hk hn h4 (by omega))
  have h3 : 0 ≤ k := by omega
  have c1 : decide ((n : Int) < 1) = false := by simpa using h1
  have c2 : decide ((1099511627776 : Int) < (n : Int)) = false := by simpa using h2
  have c3 : decide ((k : Int) < 0) = false := by simpa using h3
  have c4 : decide ((n : Int) ≤ (k : Int)) = false := by simp; omega
  have c5 : ((m : Int) == ((stepsL k' n' : Nat) : Int)) = false := by simp; omega
  have c6 : ((m : Int) != ((stepsL k' n' : Nat) : Int)) = true := by simp; omega
  clear h5 hk hn
  have HR1 := hide (two_new w 26 26 (bc d) z32)
  rw [← z32_eq] at HR1
  have HZ := hide (show (Tryd.prog.info? 26).map (·.size) = some ((bc zd).toArray).size by rw [dv_size _ zd_len]; exact Tryd.size26)
  have HO := hide (all_oneCell_toArray (bc_one zd))
  go_enter Tryd.func22, Tryd.ntmps22
  go_wp2_with (first | (go_at_call 42; ((with_reducible refine (HP.out _).mono ?_); rintro e w' ⟨rfl, rfl⟩)) | (refine wpList_store_row rfl 26 (.tmp 8) (.tmp 33) rfl (w.heap.size + 1) (bc zd).toArray rfl rfl 26 _ HR1.out.2.1 HZ.out rfl HO.out ?_))
  refine bodyPost_ret (v := .tuple #[dv zd, .int .i64 1]) (results_cell_row_tmp rfl _ _ (w.heap.size + 1) 26 _ (0, 0) _ (.int .i64 1) rfl rfl (setRow_heap _ _ _ _ _ _ HR1.out.2.1) Tryd.underlying26 rfl HZ.out) rfl ⟨rfl, below_setRow HR1.out.2.2 (by omega) _⟩
end Go.Proofs.YtnopibpakchejaaDoor
