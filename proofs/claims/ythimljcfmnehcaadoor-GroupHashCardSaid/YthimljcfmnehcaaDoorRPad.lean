/- The reference's padded text. -/
import Derived.Test.YthimljcfmnehcaaDoorRBlock
namespace Go.Proofs.YthimljcfmnehcaaDoor
open Go.RowKit

/-- A row of bytes that grows. -/
structure PI (w : World) (g cap : Nat) (L : List UInt8) (W : World) : Prop where
  own : W.ownsRow w.heap.size 5 1 (.slice (some ⟨g, 0, none⟩) L.length cap) L.length (bc L)
  bel : Below w.heap.size w W
  le : L.length ≤ cap
  cap63 : cap ≤ 9223372036854775807
  ge : w.heap.size ≤ g

theorem PI.of {w W1 W : World} {v v' : Value} {l L : List UInt8} {N : Nat} (h : W1.ownsRow w.heap.size 5 1 v l.length (bc l)) (hb : Below w.heap.size w W1) (h2 : W.ownsRow w.heap.size 5 1 v' N (bc L)) (h3 : W1.grownBy W v.ownBlock) (hN : N = L.length) (hpos : 0 < N) :
    ∃ g cap, v' = .slice (some ⟨g, 0, none⟩) N cap ∧ PI w g cap L W := by
  subst hN
  obtain ⟨g, cap, rfl, ho, _, hg, hc, hm⟩ := own_form h2 hpos
  exact ⟨g, cap, rfl, ho, hb.grown h3 hb.size (fun k hk => (h.lt k hk).1), hc, hm, hg⟩

/-- One byte more. -/
theorem app_byte {w W : World} {g cap : Nat} {L : List UInt8} (h : Hid (PI w g cap L W)) (b : UInt8) (n : Nat) (hn : n = L.length) (u : Int) (hu : u = (b.toNat : Nat)) {o : Oper} {a : Act} {K : Act → World → Prop} {Q : Exit → Act → World → Prop} (s x : Operand)
    (ho : o.op = .call { callee := .builtin .append, args := #[s, x], argTypes := #[22, 22] }) (hs : a.eval s = .slice (some ⟨g, 0, none⟩) n cap) (hx : a.eval x = .slice (some ⟨W.heap.size, 0, none⟩) 1 1) (hb : n + 1 ≤ 1000000000)
    (hk : ∀ g' cap' w', Hid (PI w g' cap' (L ++ [b]) w') → K (a.put o.dst (.slice (some ⟨g', 0, none⟩) (n + 1) cap')) w') : o.wp Tryd.prog a (W.alloc (.cells #[.int .u8 u] 5)) K Q := by
  subst hn hu
  have hB : Bs (W.alloc (.cells #[.int .u8 (b.toNat : Nat)] 5)) W.heap.size 0 [b] := (show Blk (W.alloc (.cells #[.int .u8 (b.toNat : Nat)] 5)) W.heap.size 5 (bc [b]) from Blk.new W 5 (bc [b])).bs
  refine wp_app5 s x ho w.heap.size _ L.length L hs (h.out.own.alloc _) (some ⟨W.heap.size, 0, none⟩) 1 1 [b] hx ⟨rfl, Sb.of hB, fun h => by cases h⟩ hb (by have := h.out.bel.size; simp; omega) (L.length + 1) (L ++ [b]) rfl rfl ?_
  intro v' w' h2 h3
  obtain ⟨g', cap', rfl, hp⟩ := PI.of (h.out.own.alloc _) (h.out.bel.alloc h.out.bel.size _) h2 h3 (by simp) (by omega)
  exact hk g' cap' w' (hide hp)

def zc (n : Nat) : Nat := (119 - n % 64) % 64
theorem padd_eq (l : List UInt8) : padd l = l ++ (0x80 :: (List.replicate (zc l.length) 0 ++ bits8 l.length)) := by unfold padd zeros zc; rfl

set_option maxRecDepth 100000 in
set_option maxHeartbeats 800000 in
theorem rpadded_any (a : Option Addr) (n cap : Nat) (l : List UInt8) (w : World) (hl : Src w a n cap l) (hn : n ≤ 100000000) :
    Calls Tryd.prog 41 #[.slice a n cap] w fun e w' => ∃ g c N, e = .returned (.slice (some ⟨g, 0, none⟩) N c) ∧ N = (padd l).length ∧ N ≤ c ∧ c ≤ 9223372036854775807 ∧ Bs w' g 0 (padd l) ∧ Below w.heap.size w w' ∧ w.heap.size ≤ g := by
  have HE := hide (own_empty w w.heap.size 5 5 1 rfl (Nat.le_refl _))
  have HL := hide (hl.below (below_new w (.cells #[] 5)))
  have HBEL := hide (below_new w (.cells #[] 5))
  have hn9 : 0 + n ≤ 1000000000 := by omega
  have hn91 : n + 1 ≤ 1000000000 := by omega
  have HAP := hide (show ∀ v1 w1, w1.ownsRow w.heap.size 5 1 v1 n (bc l) → (w.alloc (.cells #[] 5)).grownBy w1 (Value.slice (some ⟨w.heap.size, 0, none⟩) 0 0).ownBlock →
      (w1.alloc (.cells #[.int .u8 128] 5)).ownsRow w.heap.size 5 1 v1 n (bc l) ∧ Src (w1.alloc (.cells #[.int .u8 128] 5)) (some ⟨w1.heap.size, 0, none⟩) 1 1 [128] ∧ w.heap.size ≤ (w1.alloc (.cells #[.int .u8 128] 5)).heap.size ∧
      ∀ v2 w2, w2.ownsRow w.heap.size 5 1 v2 (n + 1) (bc (l ++ [128])) → (w1.alloc (.cells #[.int .u8 128] 5)).grownBy w2 v1.ownBlock → ∃ g c, v2 = .slice (some ⟨g, 0, none⟩) (n + 1) c ∧ Hid (PI w g c (l ++ [128]) w2) by
    intro v1 w1 h1 hg1
    have hb1 : Below w.heap.size w w1 := (below_new w (.cells #[] 5)).grown hg1 (by simp) (fun k hk => by cases hk; exact Nat.le_refl _)
    have hB : Bs (w1.alloc (.cells #[.int .u8 128] 5)) w1.heap.size 0 [128] := (show Blk (w1.alloc (.cells #[.int .u8 128] 5)) w1.heap.size 5 (bc [128]) from Blk.new w1 5 (bc [128])).bs
    refine ⟨h1.alloc _, ⟨rfl, Sb.of hB, fun h => by cases h⟩, by have := hb1.size; simp; omega, fun v2 w2 h2 hg2 => ?_⟩
    have hle := hl.len
    subst hle
    obtain ⟨g, c, e, hp⟩ := PI.of (h1.alloc _) (hb1.alloc hb1.size _) h2 hg2 (by simp) (by omega)
    exact ⟨g, c, e, hide hp⟩)
  have HLE := hide hl.len
  clear hl
  go_enter Tryd.func41, Tryd.ntmps41
  go_wp2_with (first | (refine wpList_of_wp (by rfl) (wp_app5 (.tmp 6) (.tmp 7) rfl w.heap.size _ 0 [] rfl HE.out a n cap l rfl HL.out hn9 (by simp) n l (by omega) (by simp) ?_); intro v1 w1 h1 hg1; obtain ⟨q1, q2, q3, q4⟩ := HAP.out v1 w1 h1 hg1; clear h1 hg1) | (refine wpList_of_wp (by rfl) (wp_app5 (.tmp 8) (.tmp 9) rfl w.heap.size v1 n l rfl q1 (some ⟨w1.heap.size, 0, none⟩) 1 1 [128] rfl q2 hn91 q3 (n + 1) (l ++ [128]) rfl rfl ?_); intro v2 w2 h2 hg2; obtain ⟨g, c, rfl, HP⟩ := q4 v2 w2 h2 hg2; clear h2 hg2))
  have HP0 : Hid (PI w g c (l ++ (128 :: List.replicate 0 0)) w2) := HP
  clear HE HL HBEL HAP q1 q2 q3 q4 HP
  go_loopw [3] (fun v wr => ∃ k g c : Nat, k ≤ zc n ∧ v = .slice (some ⟨g, 0, none⟩) (n + 1 + k : Nat) c ∧ n + 1 + k ≤ c ∧ c ≤ 9223372036854775807 ∧ Hid (PI w g c (l ++ (128 :: List.replicate k 0)) wr)) (fun v _ => n + 100 - (match v with | .slice _ m _ => m | _ => 0))
  case atStart => exact ⟨0, g, c, by omega, rfl, by have := HP0.out.le; have := HLE.out; simp at *; omega, HP0.out.cap63, HP0⟩
  case round =>
    clear HP0
    obtain ⟨k, g, c, hk, rfl, hc, hc63, HP⟩ := hrel
    have hz64 : zc n < 64 := by unfold zc; omega
    by_cases hlt : k < zc n
    · have hmod : ¬ (n + 1 + k) % 64 = 56 := by unfold zc at hlt; omega
      go_wp2_with (refine wpList_of_wp (by rfl) (app_byte HP 0 (n + 1 + k) (by have := HLE.out; simp; omega) _ rfl (.tmp 15) (.tmp 16) rfl rfl rfl (by omega) ?_); intro g' c' w' HP')
      go_roundw
      case rel =>
        have e : l ++ 128 :: List.replicate k 0 ++ [0] = l ++ 128 :: List.replicate (k + 1) 0 := by rw [List.append_assoc, List.cons_append, ← List.replicate_succ']
        rw [e] at HP'
        have hl1 := HP'.out.le
        simp only [List.length_append, List.length_cons, List.length_replicate] at hl1
        rw [← HLE.out] at hl1
        exact ⟨k + 1, g', c', by omega, rfl, by omega, HP'.out.cap63, HP'⟩
      case measure => simp only []; omega
    · have hmod : (n + 1 + k) % 64 = 56 := by unfold zc at hlt; unfold zc at hk; omega
      obtain rfl : k = zc n := by omega
      have hmodI : ((n : Int) + 1 + ((zc n : Nat) : Int)) % 64 = 56 := by omega
      clear hmod
      have HP0 : Hid (PI w g c (l ++ 128 :: (List.replicate (zc n) 0 ++ (bits8 n).take (8 - 8))) wr) := by simpa using HP
      have HBT := hide (fun k (hk : k < 8) => bits8_int n k hk (by omega))
      clear HP hlt hk
      go_wp2_with fail
      clear hmodI
      go_loopw [3, 5] (fun v i wr => ∃ (m g c : Nat) (t : Int), m ≤ 8 ∧ i = .int .i64 t ∧ t = (m : Int) - 1 ∧ v = .slice (some ⟨g, 0, none⟩) (n + 1 + zc n + (8 - m) : Nat) c ∧ n + 1 + zc n + (8 - m) ≤ c ∧ c ≤ 9223372036854775807 ∧ Hid (PI w g c (l ++ 128 :: (List.replicate (zc n) 0 ++ (bits8 n).take (8 - m))) wr)) (fun _ i _ => (intOf i + 1).toNat)
      case atStart => exact ⟨8, g, c, 7, by omega, rfl, rfl, rfl, hc, hc63, HP0⟩
      case round =>
        clear HP0
        obtain ⟨m, g, c, t, hm, rfl, ht, rfl, hc, hc63, HP⟩ := hrel
        rcases m with _ | j
        · have hneg : t < 0 := by omega
          clear ht
          have HP8 : Hid (PI w g c (l ++ 128 :: (List.replicate (zc n) 0 ++ (bits8 n).take (8 - 0))) wr) := HP
          clear HP
          go_wp2_with fail
          go_ret
          have e : l ++ 128 :: (List.replicate (zc n) 0 ++ (bits8 n).take (8 - 0)) = padd l := by
            rw [padd_eq, ← HLE.out, List.take_of_length_le (by rw [bits8_len]; omega)]
          rw [e] at HP8
          have hlen : n + 1 + zc n + (8 - 0) = (padd l).length := by
            rw [← e]; have := HLE.out; simp [bits8_len]; omega
          have hr := HP8.out.own
          rw [← hlen] at hr
          exact ⟨g, c, _, rfl, hlen, hc, hc63, row_bytes hr, HP8.out.bel, HP8.out.ge⟩
        · obtain rfl : t = (j : Int) := by omega
          clear ht
          have hb := HBT.out j (by omega)
          have e : (l ++ 128 :: (List.replicate (zc n) 0 ++ (bits8 n).take (8 - (j + 1)))) ++ [(bits8 n).getD (7 - j) 0] = l ++ 128 :: (List.replicate (zc n) 0 ++ (bits8 n).take (8 - j)) := by
            have h7 : 7 - j < (bits8 n).length := by rw [bits8_len]; omega
            rw [List.append_assoc, List.cons_append, List.append_assoc, show 8 - j = 7 - j + 1 by omega, List.take_succ_eq_append_getElem h7, show 8 - (j + 1) = 7 - j by omega, List.getD_eq_getElem?_getD, List.getElem?_eq_getElem h7]
            rfl
          have HE := hide e
          have HB := hide hb
          clear e hb
          go_wp2_with (refine wpList_of_wp (by rfl) (app_byte HP ((bits8 n).getD (7 - j) 0) (n + 1 + zc n + (8 - (j + 1))) (by have := HLE.out; simp [bits8_len]; omega) _ (by rw [HB.out, Int.mul_comm]) (.tmp 26) (.tmp 32) rfl rfl rfl (by omega) ?_); intro g' c' w' HP')
          rw [HE.out] at HP'
          go_roundw
          case rel =>
            have hl1 := HP'.out.le
            have hn1 := HLE.out
            simp [bits8_len] at hl1
            exact ⟨j, g', c', _, by omega, rfl, rfl, by rw [show n + 1 + zc n + (7 - j) + 1 = n + 1 + zc n + (8 - j) by omega], by omega, HP'.out.cap63, HP'⟩
          case measure => simp [intOf]
end Go.Proofs.YthimljcfmnehcaaDoor
