/- JournalOpenSpec: the walk. -/
import Derived.Test.YtgigccgklahddaaSan
import Derived.Test.YtgigccgklahddaaRop
namespace Go.Proofs.Ytgigccgklahddaa
open Go.RowKit

set_option maxRecDepth 100000 in
set_option maxHeartbeats 6400000 in
theorem ospec_walk (d : Dsk) (w : World) (hd : d.In w.heap.size w) :
    Calls Try.prog 3 #[d.v] w fun e w' => e = .returned (.bool true) ∧ Below w.heap.size w w' := by
  have HD := hide hd
  have HBX := hide (Blk.new w 25 d.cs)
  have HW := hide (below_new w (.cells d.cs.toArray 25))
  clear hd
  go_enter Try.func3, Try.ntmps3
  go_wp2_with fail
  refine (sane_any _).mono ?_
  rintro e w1 ⟨rfl, hb⟩
  have HF1 := hide (below_one HW.out hb)
  have HB1 := hide (HBX.out.below hb HBX.out.lt)
  clear hb HBX HW
  obtain ⟨q0, q1, q2, q3⟩ := HB1.out.c4
  have HFW := hide (few_any d none [] 0 w1 (HD.out.below HF1.out) (fun k h => absurd h (Nat.not_lt_zero _)) (by rw [show secD [] = [] from rfl, bulkB_nil]; exact Nat.zero_le _))
  generalize fewB d.d (secD []) = f at HFW
  go_wp2_with fail
  refine HFW.out.mono ?_
  rintro e w2 ⟨rfl, hb⟩
  have HF2 := hide (below_one HF1.out hb)
  have HB2 := hide (HB1.out.below hb HB1.out.lt)
  clear hb HB1 HF1 q0 q1 q2 q3 HFW
  cases f with
  | false =>
    go_wp2_with fail
    go_ret
    exact ⟨rfl, HF2.out⟩
  | true =>
    obtain ⟨q0, q1, q2, q3⟩ := HB2.out.c4
    have HAP := hide (open_any d w2 (HD.out.below HF2.out))
    generalize HX : d.d.jopen = x at HAP
    go_wp2_with fail
    refine HAP.out.mono ?_
    rintro e w3 ⟨⟨A5, l5, c5, m5, s5⟩, rfl, hk, hi, hb⟩
    have HK5 := hide hk
    have HF3 := hide ((below_one HF2.out hb).alloc (below_one HF2.out hb).size (.cells #[.slice A5 l5.length c5, .int .i64 m5, .int .i64 s5] 29))
    have HB3 := hide ((HB2.out.below hb HB2.out.lt).alloc (.cells #[.slice A5 l5.length c5, .int .i64 m5, .int .i64 s5] 29))
    have HB5 := hide (Blk.new w3 29 [.slice A5 l5.length c5, .int .i64 m5, .int .i64 s5])
    have HI5 := hide (hi.below (below_new w3 (.cells #[.slice A5 l5.length c5, .int .i64 m5, .int .i64 s5] 29)))
    clear hk hi hb q0 q1 q2 q3 HAP HB2 HF2
    obtain ⟨q0, q1, q2, q3⟩ := HB3.out.c4
    have HAP := hide (ropen_any d _ (HD.out.below HF3.out))
    rw [HX] at HAP
    clear HX
    go_wp2_with fail
    refine HAP.out.mono ?_
    rintro e w4 ⟨⟨A7, l7, c7, m7, s7⟩, rfl, hk, hi, hb⟩
    have HK7 := hide hk
    have HF5 := hide ((below_one HF3.out hb).alloc (below_one HF3.out hb).size (.cells #[.slice A7 l7.length c7, .int .i64 m7, .int .i64 s7] 29))
    have HB55 := hide ((HB5.out.below hb HB5.out.lt).alloc (.cells #[.slice A7 l7.length c7, .int .i64 m7, .int .i64 s7] 29))
    have HB75 := hide (Blk.new w4 29 [.slice A7 l7.length c7, .int .i64 m7, .int .i64 s7])
    have HI55 := hide ((HI5.out.below hb).below (below_new w4 (.cells #[.slice A7 l7.length c7, .int .i64 m7, .int .i64 s7] 29)))
    have HI75 := hide (hi.below (below_new w4 (.cells #[.slice A7 l7.length c7, .int .i64 m7, .int .i64 s7] 29)))
    clear hk hi hb q0 q1 q2 q3 HAP HB3 HF3 HB5 HI5
    obtain ⟨q0, q1, q2⟩ := HB55.out.c3
    obtain ⟨p0, p1, p2⟩ := HB75.out.c3
    have HSM := hide (jsame_any (Jr.mk A5 l5 c5 m5 s5) (Jr.mk A7 l7 c7 m7 s7) _ HI55.out HI75.out)
    rw [HK5.out, HK7.out, sameJ_self] at HSM
    clear HI55 HI75 HB55 HB75 HK5 HK7 HD
    go_wp2_with fail
    refine HSM.out.mono ?_
    rintro e w5 ⟨rfl, hb⟩
    have HF6 := hide (below_one HF5.out hb)
    clear hb q0 q1 q2 p0 p1 p2
    go_wp2_with fail
    go_ret
    exact ⟨rfl, HF6.out⟩
end Go.Proofs.Ytgigccgklahddaa
