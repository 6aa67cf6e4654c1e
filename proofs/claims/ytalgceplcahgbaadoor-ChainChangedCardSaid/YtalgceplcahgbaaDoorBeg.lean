/- beginnings: the beginnings of a list of links that are followed by a link, with their heads. -/
import Derived.Test.YtalgceplcahgbaaDoorHed
import Derived.Test.YtalgceplcahgbaaDoorRgt
namespace Go.Proofs.YtalgceplcahgbaaDoor
open Go.RowKit Go.Shelf
attribute [local go_sem] Oper.semAt_some

theorem begin_any (A : Option Addr) (n c : Nat) (w : World) : Calls Tryd.prog 81 #[.slice A n c] w fun e w' => e = .returned (.func (.func 93) #[] #[.pointer (some ⟨w.heap.size, 0, none⟩)]) ∧ w' = w.alloc (.cells #[.slice A n c] 49) := by
  go_enter Tryd.func81, Tryd.ntmps81
  go_wp2_with fail
  go_ret
  exact ⟨rfl, rfl⟩
theorem abides_below {β : Type} {B : Nat} {J : β → World → Prop} (h : AbidesFrom B J) {s : β} {W W' : World} (hJ : J s W) (hb : Below W.heap.size W W') : J s W' :=
  h s W W' none hJ ⟨hb.os, hb.tape, hb.output, hb.size, fun i hi _ => hb.block i hi⟩ (fun r e => by cases e)
/-- The first k of n. -/
def upk (n k : Nat) : List (Fin n) := (List.finRange n).take k
theorem upk_zero (n : Nat) : upk n 0 = [] := rfl
theorem upk_succ {n k : Nat} (h : k < n) : upk n (k + 1) = upk n k ++ [⟨k, h⟩] := by
  unfold upk
  rw [List.take_succ_eq_append_getElem (by simpa using h)]
  simp
theorem upk_len {n k : Nat} (h : k ≤ n) : (upk n k).length = k := by simp [upk]; omega
theorem upk_mem (n : Nat) (i : Fin n) : i ∈ upk n n := by
  unfold upk
  rw [List.take_of_length_le (by simp)]
  exact List.mem_finRange i
/-- A beginning and its head. -/
def encK (A : Option Addr) (cap : Nat) (l : List Lr) (k : Fin l.length) : Array Value := #[.slice A k.1 cap, dv (hdA (lnks (l.take k.1)))]

set_option maxRecDepth 100000 in
set_option maxHeartbeats 3200000 in
theorem begin_gives (n : Nat) (_hn : 1 ≤ n) (B1 : Nat) (A : Option Addr) (l : List Lr) (cap : Nat) (W0 : World) (K : World → World → Prop) (hs : Short l)
    (hK : ∀ W, K W0 W → Tab W ∧ Lks W A l ∧ W.cell? ⟨B1, 0, none⟩ = some (.slice A l.length cap))
    (hKt : ∀ A B C : World, K A B → K B C → K A C) (hKg : ∀ A B : World, Below A.heap.size A B → K A B) (hle : l.length ≤ cap) (hcap : cap ≤ 9223372036854775807) :
    GivesT Fence.wide n Tryd.prog 93 #[.pointer (some ⟨B1, 0, none⟩)] (encK A cap l) K (fun xs => ∀ k : Fin l.length, k ∈ xs) (fun _ => True) (l.length + 1) W0 := by
  intro ly J Jx W hW hA _ hY h0
  have HI := hide hK
  have HY := hide hY
  have HA := hide hA
  have HKT := hide hKt
  have HKG := hide hKg
  have HS := hide hs
  have HW0 := hide (hKg _ _ hW)
  have hc0 := (hK W (hKg _ _ hW)).2.2
  clear hK hY hA hKt hKg hW hs
  refine callsIn_of_wp Tryd.func93 rfl trivial ?_ rfl
  simp only [Tryd.ntmps93, List.size_toArray, List.length_cons, List.length_nil, Nat.reduceAdd, Nat.reduceSub, Array.replicate_succ, Array.replicate_zero, List.push_toArray, List.append_toArray, List.nil_append, List.cons_append]
  gi_wp2
  gi_loopw [3, 4, 7] (fun _ _ v wr => ∃ (k : Nat), k ≤ l.length ∧ v = .int .i64 k ∧ Hid (J (upk l.length k) wr) ∧ Hid (K W0 wr)) (fun _ _ v _ => l.length - (intOf v).toNat)
  case atStart => exact ⟨0, Nat.zero_le _, rfl, hide h0, HW0⟩
  case round =>
    obtain ⟨k, hk, rfl, HJ, HW⟩ := hrel
    have e0 := (HI.out _ HW.out).2.2
    by_cases hlt : k < l.length
    · have hlt' : (k : Int) < l.length := by omega
      obtain ⟨b, o, rfl, _, _, _⟩ := (HI.out _ HW.out).2.1.at hlt
      have hkc : ((k : Nat) : Int) ≤ ((cap : Nat) : Int) := by omega
      have HUP := hide (upk_succ hlt)
      have HLN := hide (show (upk l.length k).length < l.length + 1 by rw [upk_len hk]; omega)
      have HTL := hide (show (l.take k).length = k by rw [List.length_take]; omega)
      have HHD := hide (HTL.out ▸ head_any (some ⟨b, o, none⟩) (l.take k) cap wr (HI.out _ HW.out).1 ((HI.out _ HW.out).2.1.take k) (by rw [List.length_take]; omega) hcap (HS.out.take k))
      gi_wp2
      refine ⟨trivial, ?_⟩
      refine (callsIn_wide.2 HHD.out).mono ?_
      rintro e w5 ⟨rfl, hb⟩
      have HJ5 := hide (abides_below HA.out HJ.out hb)
      have HW5 := hide (HKT.out _ _ _ HW.out (HKG.out _ _ hb))
      clear hb HHD
      obtain ⟨fn, tmps, assign, body, hy, hR⟩ := HY.out (upk l.length k) ⟨k, hlt⟩ w5 HJ5.out HLN.out
      unfold encK at hy
      dsimp only at hy
      have HRR := hide hR
      clear hR
      gi_wp2
      refine HRR.out.mono ?_
      rintro e w6 (⟨rfl, hJ6, hk6⟩ | ⟨rfl, hJx6⟩)
      · have HW6 := hide (HKT.out _ _ _ HW5.out hk6)
        have HJ6 := hide hJ6
        clear hJ6 hk6
        gi_wp2
        go_roundw
        case rel => exact ⟨k + 1, by omega, by go_num, hide (by rw [HUP.out]; exact HJ6.out), HW6⟩
        case measure => simp [intOf]; omega
      · have HJX := hide hJx6
        clear hJx6
        gi_wp2
        refine bodyPost_ret (results_none rfl _ _ _) rfl ?_
        exact ⟨⟨_, rfl⟩, .inr ⟨_, trivial, HJX.out⟩⟩
    · obtain rfl : k = l.length := by omega
      have hge : ¬ ((l.length : Int) < l.length) := by omega
      gi_wp2
      go_end0
      exact ⟨⟨_, rfl⟩, .inl ⟨_, fun i => upk_mem _ i, HJ.out⟩⟩
end Go.Proofs.YtalgceplcahgbaaDoor
