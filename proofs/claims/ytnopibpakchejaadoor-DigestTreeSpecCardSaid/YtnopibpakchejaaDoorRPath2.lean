/- The reference's length. -/
import Derived.Test.YtnopibpakchejaaDoorRTree
import Derived.Test.YtnopibpakchejaaDoorLen
namespace Go.Proofs.YtnopibpakchejaaDoor
open Go.RowKit

def RLenAt (n : Nat) : Prop := ∀ (k : Nat) (w : World), k < n → Calls Tryd.prog 44 #[.int .i64 (k : Nat), .int .i64 (n : Nat)] w fun e w' => e = .returned (.int .i64 (stepsL k n : Nat)) ∧ w' = w

set_option maxHeartbeats 800000 in
theorem rlen_step (n : Nat) (hn : n ≤ 1099511627776) (ih : ∀ m, m < n → RLenAt m) : RLenAt n := by
  intro k w hk
  by_cases h2 : 2 ≤ n
  · have HFP := hide (fun (W : World) => rhalf_any n W hn)
    have hp1 := hp_pos n
    have hp2 := hp_lt h2
    have hsl := steps_le n k
    have hne : ¬ n = 1 := by omega
    have hneI : ¬ (n : Int) = 1 := by omega
    by_cases hlt : k < hp n
    · have HE := hide (stepsL_left h2 (k := k) hlt)
      have HI := hide (fun (W : World) => ih (hp n) hp2 k W hlt)
      have HSL := hide hsl
      clear ih hsl
      generalize hp n = h at *
      have hltI : (k : Int) < (h : Int) := by omega
      have hs2 : stepsL k h < 1099511627776 := by have := HE.out; have := HSL.out; omega
      generalize stepsL k h = q at *
      go_enter Tryd.func44, Tryd.ntmps44
      go_wp2_with (first | (go_at_call 38; ((with_reducible refine (HFP.out _).mono ?_); rintro e w' ⟨rfl, rfl⟩)) | (go_at_call 44; ((with_reducible refine (HI.out _).mono ?_); rintro e w' ⟨rfl, rfl⟩)))
      go_ret
      exact ⟨ret_num (by have := HE.out; omega), rfl⟩
    · have HE := hide (stepsL_right h2 (k := k) (by omega))
      have HI := hide (fun (W : World) => ih (n - hp n) (by omega) (k - hp n) W (by omega))
      have HSL := hide hsl
      clear ih hsl
      generalize hp n = h at *
      have hltI : ¬ (k : Int) < (h : Int) := by omega
      have hs2 : stepsL (k - h) (n - h) < 1099511627776 := by have := HE.out; have := HSL.out; omega
      generalize stepsL (k - h) (n - h) = q at *
      rw [show ((k - h : Nat) : Int) = (k : Int) - h by omega, show ((n - h : Nat) : Int) = (n : Int) - h by omega] at HI
      go_enter Tryd.func44, Tryd.ntmps44
      go_wp2_with (first | (go_at_call 38; ((with_reducible refine (HFP.out _).mono ?_); rintro e w' ⟨rfl, rfl⟩)) | (go_at_call 44; ((with_reducible refine (HI.out _).mono ?_); rintro e w' ⟨rfl, rfl⟩)))
      go_ret
      exact ⟨ret_num (by have := HE.out; omega), rfl⟩
  · have HE := hide (stepsL_one (n := n) (by omega) k)
    obtain rfl : n = 1 := by omega
    go_enter Tryd.func44, Tryd.ntmps44
    go_wp2_with fail
    go_ret
    exact ⟨by rw [HE.out]; rfl, rfl⟩

theorem rlen_any (n : Nat) : n ≤ 1099511627776 → RLenAt n := by
  induction n using Nat.strongRecOn with
  | _ n ih => exact fun hn => rlen_step n hn fun m hm => ih m hm (by omega)
end Go.Proofs.YtnopibpakchejaaDoor

/- The reference's path. -/
namespace Go.Proofs.YtnopibpakchejaaDoor
open Go.RowKit

theorem rhalf_is (n : Nat) (w : World) (h' : n ≤ 1099511627776) :
    Calls Tryd.prog 38 #[.int .i64 (n : Nat)] w fun e w' => e = .returned (.int .i64 (hp n : Nat)) ∧ w = w' := (rhalf_any n w h').mono fun _ _ ⟨e, f⟩ => ⟨e, f.symm⟩

def RPathAt (n : Nat) : Prop := ∀ (l : List (List UInt8)) (m cap k : Nat) (kk : Int) (a : Option Addr) (w : World), l.length = n → m = n → kk = k → k < n → D32 l → Ds w a l → n ≤ cap → cap ≤ 9223372036854775807 →
  Calls Tryd.prog 41 #[.slice a m cap, .int .i64 kk] w (PathPost (pathL l k) w)

theorem rpath_one (n : Nat) (hn : n = 1) : RPathAt n := by
  subst hn
  intro l m cap k kk a w hl hm hkk hk hD hL hcap hcap'
  subst hm
  have HP := hide (pathL_one (l := l) (by omega) k)
  have HE := hide (own_empty w w.heap.size 26 26 32 rfl (Nat.le_refl _))
  have HB := hide (below_new w (.cells #[] 26))
  clear hL hD
  go_enter Tryd.func41, Tryd.ntmps41
  go_wp2_with fail
  go_ret
  rw [HP.out]
  exact ⟨_, rfl, HE.out, HB.out⟩

set_option maxRecDepth 10000 in
set_option maxHeartbeats 800000 in
theorem rpath_left (n : Nat) (h2 : 2 ≤ n) (hn : n ≤ 1000) (ih : ∀ k, k < n → RPathAt k) (l : List (List UInt8)) (m cap k : Nat) (a : Option Addr) (w : World) (hl : l.length = n) (hm : m = n) (hk : k < hp n) (hD : D32 l) (hL : Ds w a l) (hcap : n ≤ cap) (hcap' : cap ≤ 9223372036854775807) :
    Calls Tryd.prog 41 #[.slice a m cap, .int .i64 (k : Nat)] w (PathPost (pathL l k) w) := by
  subst hm
  obtain ⟨b, o, rfl, hB⟩ := hL.at hD (by omega)
  have hp1 := hp_pos m
  have hp2 := hp_lt h2
  have blt : b < w.heap.size := hB.lt (by rw [hD.flat]; omega)
  have HPL := hide (fun (W : World) (hW : Below w.heap.size w W) => ih (hp m) hp2 (l.take (hp m)) (hp m) cap k (k : Nat) (some ⟨b, o, none⟩) W (by simp; omega) rfl rfl hk (hD.take _) (Ds.of (bs_take hD (hB.below hW blt) _)) (by omega) (by omega))
  have HTR := hide (fun (W : World) (hW : Below w.heap.size w W) => rtree_any (l.drop (hp m)) (m - hp m) (cap - hp m) (some ⟨b, o + hp m * 32, none⟩) W (hD.drop _) (Ds.of (by rw [Nat.mul_comm]; exact bs_drop hD (hB.below hW blt) _)) (by simp; omega) (by omega) (by omega) (by omega))
  have HMO := hide (show pathL l k = pathL (l.take (hp m)) k ++ [treeL (l.drop (hp m))] by rw [pathL_left (by omega) (by rw [hl]; exact hk), hl])
  have HFP := hide (fun (W : World) => rhalf_is m W (by omega))
  have HTL := hide (treeL_len (l.drop (hp m)))
  have HPN := hide (show (pathL (l.take (hp m)) k).length ≤ 1000 by
    rw [path_steps (hp m) _ _ (by simp; omega)]
    have := steps_le (hp m) k
    omega)
  generalize hp m = h at *
  clear hL hB ih hl hD
  obtain ⟨i0, hi, hz0, hz1, hz2⟩ := info_parts Tryd.info26
  have HI := hide (And.intro hi (And.intro hz0 (And.intro hz1 hz2)))
  clear hi hz0 hz1 hz2
  generalize treeL (l.drop h) = T at *
  generalize pathL (l.take h) k = p at *
  go_enter Tryd.func41, Tryd.ntmps41
  go_wp2_with (go_at_call 38; refine (HFP.out _).mono ?_; rintro e w' ⟨rfl, rfl⟩)
  have i1 : (0 : Int) ≤ (h : Int) := by omega
  have i2 : (h : Int) ≤ (m : Int) := by omega
  have i3 : (h : Int) ≤ (cap : Int) := by omega
  have i4 : (m : Int) ≤ (cap : Int) := by omega
  have i5 : ¬ cap = h := by omega
  have HK0 := hide (below_one (Below.refl w.heap.size w) ((Below.refl _ w).drew))
  have hT1 : (bc T).toArray.size = 32 := dv_size _ HTL.out
  have hfold := fold_dv T HTL.out
  go_region_held3 (fun w' => Hid (Below w.heap.size w w'))
    (first | exact hide (Below.drew (Below.refl _ _)) | ((refine hide (below_one (Hid.out ?_) (below_new _ _))); assumption) | (apply keep_b; assumption; assumption) | exact keep_g hgC hownB (by assumption))
    (first | (go_at_call 41; (with_reducible refine (HPL.out _ (Hid.out (by assumption))).mono ?_); (rintro e wA ⟨vA, rfl, hownA, hbA⟩)) | (go_at_call 18; (with_reducible refine (HTR.out _ (Hid.out (by assumption))).mono ?_); (rintro e wB ⟨rfl, hbB⟩)) | (have hownB : (wB.alloc (Obj.cells (bc T).toArray 26)).ownsRow w.heap.size 26 32 vA p.length (bc p.flatten) := (own_below hownA hbB).alloc _; refine step_append_lies _ rfl (.tmp 20) (.tmp 25) 30 rfl w.heap.size 26 i0 _ 32 32 Tryd.underlying30 HI.out.1 HI.out.2.1 HI.out.2.2.1 HI.out.2.2.2 rfl (by decide) vA p.length (bc p.flatten) rfl hownB ⟨wB.heap.size, 0, none⟩ 1 1 (bc T) rfl (by rw [bc_len, HTL.out]) (by have := World.news_of_block (heap_alloc_new wB (.cells (bc T).toArray 26)); simpa using this) (bc_one T) (by decide) (by have := HPN.out; unfold maxLen; omega) (by have := HPN.out; omega) (keep_size (by assumption)) _ rfl ?_; intro g capC wC hownC hgC hatC hltC))
  have HC := hide hownC
  have HB := hide (keep_g hgC hownB (keep_b (below_new _ _) (keep_b hbB (keep_b hbA HK0))))
  clear hownC hgC hatC hownB hownA
  go_wp2_with fail
  go_ret
  rw [HMO.out]
  refine ⟨_, rfl, ?_, HB.out.out⟩
  have := HC.out
  rw [← bc_append] at this
  simpa using this

set_option maxRecDepth 10000 in
set_option maxHeartbeats 800000 in
theorem rpath_right (n : Nat) (h2 : 2 ≤ n) (hn : n ≤ 1000) (ih : ∀ k, k < n → RPathAt k) (l : List (List UInt8)) (m cap k : Nat) (a : Option Addr) (w : World) (hl : l.length = n) (hm : m = n) (hk : hp n ≤ k) (hkn : k < n) (hD : D32 l) (hL : Ds w a l) (hcap : n ≤ cap) (hcap' : cap ≤ 9223372036854775807) :
    Calls Tryd.prog 41 #[.slice a m cap, .int .i64 (k : Nat)] w (PathPost (pathL l k) w) := by
  subst hm
  obtain ⟨b, o, rfl, hB⟩ := hL.at hD (by omega)
  have hp1 := hp_pos m
  have hp2 := hp_lt h2
  have blt : b < w.heap.size := hB.lt (by rw [hD.flat]; omega)
  have HPL := hide (fun (W : World) (hW : Below w.heap.size w W) => ih (m - hp m) (by omega) (l.drop (hp m)) (m - hp m) (cap - hp m) (k - hp m) ((k : Int) - (hp m : Nat)) (some ⟨b, o + hp m * 32, none⟩) W (by simp; omega) rfl (by omega) (by omega) (hD.drop _) (Ds.of (by rw [Nat.mul_comm]; exact bs_drop hD (hB.below hW blt) _)) (by omega) (by omega))
  have HTR := hide (fun (W : World) (hW : Below w.heap.size w W) => rtree_any (l.take (hp m)) (hp m) cap (some ⟨b, o, none⟩) W (hD.take _) (Ds.of (bs_take hD (hB.below hW blt) _)) (by simp; omega) (by omega) (by omega) (by omega))
  have HMO := hide (show pathL l k = pathL (l.drop (hp m)) (k - hp m) ++ [treeL (l.take (hp m))] by rw [pathL_right (by omega) (by rw [hl]; exact hk), hl])
  have HFP := hide (fun (W : World) => rhalf_is m W (by omega))
  have HTL := hide (treeL_len (l.take (hp m)))
  have HPN := hide (show (pathL (l.drop (hp m)) (k - hp m)).length ≤ 1000 by
    rw [path_steps (m - hp m) _ _ (by simp; omega)]
    have := steps_le (m - hp m) (k - hp m)
    omega)
  generalize hp m = h at *
  clear hL hB ih hl hD
  obtain ⟨i0, hi, hz0, hz1, hz2⟩ := info_parts Tryd.info26
  have HI := hide (And.intro hi (And.intro hz0 (And.intro hz1 hz2)))
  clear hi hz0 hz1 hz2
  generalize treeL (l.take h) = T at *
  generalize pathL (l.drop h) (k - h) = p at *
  go_enter Tryd.func41, Tryd.ntmps41
  go_wp2_with (go_at_call 38; refine (HFP.out _).mono ?_; rintro e w' ⟨rfl, rfl⟩)
  have i1 : (0 : Int) ≤ (h : Int) := by omega
  have i2 : (h : Int) ≤ (m : Int) := by omega
  have i3 : (h : Int) ≤ (cap : Int) := by omega
  have i4 : (m : Int) ≤ (cap : Int) := by omega
  have i5 : ¬ cap = h := by omega
  have i6 : IntKind.i64.wrap ((k : Int) - (h : Int)) = (k : Int) - (h : Int) := IntWalk.i64_in _ (by omega)
  have HK0 := hide (below_one (Below.refl w.heap.size w) ((Below.refl _ w).drew))
  have hT1 : (bc T).toArray.size = 32 := dv_size _ HTL.out
  have hfold := fold_dv T HTL.out
  go_region_held3 (fun w' => Hid (Below w.heap.size w w'))
    (first | exact hide (Below.drew (Below.refl _ _)) | ((refine hide (below_one (Hid.out ?_) (below_new _ _))); assumption) | (apply keep_b; assumption; assumption) | exact keep_g hgC hownB (by assumption))
    (first | (go_at_call 41; (with_reducible refine (HPL.out _ (Hid.out (by assumption))).mono ?_); (rintro e wA ⟨vA, rfl, hownA, hbA⟩)) | (go_at_call 18; (with_reducible refine (HTR.out _ (Hid.out (by assumption))).mono ?_); (rintro e wB ⟨rfl, hbB⟩)) | (have hownB : (wB.alloc (Obj.cells (bc T).toArray 26)).ownsRow w.heap.size 26 32 vA p.length (bc p.flatten) := (own_below hownA hbB).alloc _; refine step_append_lies _ rfl (.tmp 33) (.tmp 38) 30 rfl w.heap.size 26 i0 _ 32 32 Tryd.underlying30 HI.out.1 HI.out.2.1 HI.out.2.2.1 HI.out.2.2.2 rfl (by decide) vA p.length (bc p.flatten) rfl hownB ⟨wB.heap.size, 0, none⟩ 1 1 (bc T) rfl (by rw [bc_len, HTL.out]) (by have := World.news_of_block (heap_alloc_new wB (.cells (bc T).toArray 26)); simpa using this) (bc_one T) (by decide) (by have := HPN.out; unfold maxLen; omega) (by have := HPN.out; omega) (keep_size (by assumption)) _ rfl ?_; intro g capC wC hownC hgC hatC hltC))
  have HC := hide hownC
  have HB := hide (keep_g hgC hownB (keep_b (below_new _ _) (keep_b hbB (keep_b hbA HK0))))
  clear hownC hgC hatC hownB hownA
  go_wp2_with fail
  go_ret
  rw [HMO.out]
  refine ⟨_, rfl, ?_, HB.out.out⟩
  have := HC.out
  rw [← bc_append] at this
  simpa using this
theorem rpath_all (n : Nat) : n ≤ 1000 → RPathAt n := by
  induction n using Nat.strongRecOn with
  | _ n ih =>
    intro hn
    by_cases h2 : 2 ≤ n
    · intro l m cap k kk a w hl hm hkk hk hD hL hcap hcap'
      subst hkk
      by_cases hkh : k < hp n
      · exact rpath_left n h2 hn (fun j hj => ih j hj (by omega)) l m cap k a w hl hm hkh hD hL hcap hcap'
      · exact rpath_right n h2 hn (fun j hj => ih j hj (by omega)) l m cap k a w hl hm (by omega) hk hD hL hcap hcap'
    · by_cases h1 : n = 1
      · exact rpath_one n h1
      · intro l m cap k kk a w hl hm hkk hk
        omega

theorem rpath_any (l : List (List UInt8)) (m cap k : Nat) (a : Option Addr) (w : World) (hD : D32 l) (hL : Ds w a l) (hm : m = l.length) (hk : k < m) (hn : m ≤ 1000) (hcap : m ≤ cap) (hcap' : cap ≤ 9223372036854775807) :
    Calls Tryd.prog 41 #[.slice a m cap, .int .i64 (k : Nat)] w (PathPost (pathL l k) w) :=
  rpath_all m hn l m cap k k a w hm.symm rfl rfl hk hD hL hcap hcap'
end Go.Proofs.YtnopibpakchejaaDoor

/- The reference's Path. -/
namespace Go.Proofs.YtnopibpakchejaaDoor
open Go.RowKit

set_option maxHeartbeats 800000 in
theorem RPath_no (m cap : Nat) (k : Int) (a : Option Addr) (w : World) (hk : k < 0 ∨ m ≤ k) :
    Calls Tryd.prog 20 #[.slice a m cap, .int .i64 k] w fun e w' => e = .returned (.tuple #[.slice none 0 0, .int .i64 1]) ∧ Below w.heap.size w w' := by
  by_cases h0 : k < 0
  · go_enter Tryd.func20, Tryd.ntmps20
    go_wp2_with fail
    go_ret2
    exact ⟨rfl, Below.refl _ _⟩
  · have h1 : (m : Int) ≤ k := by omega
    have h2 : decide (k < 0) = false := by simpa using h0
    go_enter Tryd.func20, Tryd.ntmps20
    go_wp2_with fail
    go_ret2
    exact ⟨rfl, Below.refl _ _⟩

set_option maxHeartbeats 800000 in
theorem RPath_yes (l : List (List UInt8)) (m cap k : Nat) (a : Option Addr) (w : World) (hD : D32 l) (hL : Ds w a l) (hm : m = l.length) (hk : k < m) (hn : m ≤ 1000) (hcap : m ≤ cap) (hcap' : cap ≤ 9223372036854775807) :
    Calls Tryd.prog 20 #[.slice a m cap, .int .i64 (k : Nat)] w (PathPost2 (pathL l k) w) := by
  have HP := hide (rpath_any l m cap k a w hD hL hm hk hn hcap hcap')
  clear hD hL hm
  have h2 : decide ((k : Int) < 0) = false := by simp
  have h3 : ¬ ((m : Int) ≤ (k : Int)) := by omega
  go_enter Tryd.func20, Tryd.ntmps20
  go_wp2_with fail
  with_reducible refine HP.out.mono ?_
  rintro e w1 ⟨v, rfl, hown, hb⟩
  have H := hide (And.intro hown hb)
  clear hown hb
  go_wp2_with fail
  go_ret2
  exact ⟨v, rfl, H.out⟩

end Go.Proofs.YtnopibpakchejaaDoor
