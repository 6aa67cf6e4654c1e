/- pathTo, the other half; Path. -/
import Derived.Test.YtnopibpakchejaaDoorPath
namespace Go.Proofs.YtnopibpakchejaaDoor
open Go.RowKit

set_option maxRecDepth 10000 in
set_option maxHeartbeats 800000 in
theorem path_right (n : Nat) (h2 : 2 ≤ n) (hn : n ≤ 1000) (ih : ∀ k, k < n → PathAt k) (l : List (List UInt8)) (m cap k : Nat) (a : Option Addr) (w : World) (hl : l.length = n) (hm : m = n) (hk : hp n ≤ k) (hkn : k < n) (hT : Tab w) (hD : D32 l) (hL : Ds w a l) (hcap : n ≤ cap) (hcap' : cap ≤ 9223372036854775807) :
    Calls Tryd.prog 40 #[.slice a m cap, .int .i64 (k : Nat)] w (PathPost (pathL l k) w) := by
  subst hm
  obtain ⟨b, o, rfl, hB⟩ := hL.at hD (by omega)
  have hp1 := hp_pos m
  have hp2 := hp_lt h2
  have blt : b < w.heap.size := hB.lt (by rw [hD.flat]; omega)
  have HPL := hide (fun (W : World) (hW : Below w.heap.size w W) => ih (m - hp m) (by omega) (l.drop (hp m)) (m - hp m) (cap - hp m) (k - hp m) ((k : Int) - (hp m : Nat)) (some ⟨b, o + hp m * 32, none⟩) W (by simp; omega) rfl (by omega) (by omega) (hT.below hW) (hD.drop _) (Ds.of (by rw [Nat.mul_comm]; exact bs_drop hD (hB.below hW blt) _)) (by omega) (by omega))
  have HTR := hide (fun (W : World) (hW : Below w.heap.size w W) => tree_any (l.take (hp m)) (hp m) cap (some ⟨b, o, none⟩) W (hT.below hW) (hD.take _) (Ds.of (bs_take hD (hB.below hW blt) _)) (by simp; omega) (by omega) (by omega) (by omega))
  have HMO := hide (show pathL l k = pathL (l.drop (hp m)) (k - hp m) ++ [treeL (l.take (hp m))] by rw [pathL_right (by omega) (by rw [hl]; exact hk), hl])
  have HFP := hide (fun (W : World) => firstPart_any m W h2 (by omega))
  have HTL := hide (treeL_len (l.take (hp m)))
  have HPN := hide (show (pathL (l.drop (hp m)) (k - hp m)).length ≤ 1000 by
    rw [path_steps (m - hp m) _ _ (by simp; omega)]
    have := steps_le (m - hp m) (k - hp m)
    omega)
  generalize hp m = h at *
  clear hT hL hB ih hl hD
  obtain ⟨i0, hi, hz0, hz1, hz2⟩ := info_parts Tryd.info26
  have HI := hide (And.intro hi (And.intro hz0 (And.intro hz1 hz2)))
  clear hi hz0 hz1 hz2
  generalize treeL (l.take h) = T at *
  generalize pathL (l.drop h) (k - h) = p at *
  go_enter Tryd.func40, Tryd.ntmps40
  go_wp2_with (go_at_call 36; refine (HFP.out _).mono ?_; rintro e w' ⟨rfl, rfl⟩)
  have i1 : (0 : Int) ≤ (h : Int) := by omega
  have i2 : (h : Int) ≤ (m : Int) := by omega
  have i3 : (h : Int) ≤ (cap : Int) := by omega
  have i4 : (m : Int) ≤ (cap : Int) := by omega
  have i5 : ¬ cap = h := by omega
  have i6 : IntKind.i64.wrap ((k : Int) - (h : Int)) = (k : Int) - (h : Int) := IntWalk.i64_in _ (by omega)
  have HK0 := hide (below_one (Below.refl w.heap.size w) ((Below.refl _ w).drew))
  have hT1 : (bc T).toArray.size = 32 := dv_size _ HTL.out
  have hfold := fold_dv T HTL.out
  go_region_held3 (fun w' => Hid (Below w.heap.size w w'))
    (first | exact hide (Below.drew (Below.refl _ _)) | ((refine hide (below_one (Hid.out ?_) (below_new _ _))); assumption) | (apply keep_b; assumption; assumption) | exact keep_g hgC hownB (by assumption))
    (first | (go_at_call 40; (with_reducible refine (HPL.out _ (Hid.out (by assumption))).mono ?_); (rintro e wA ⟨vA, rfl, hownA, hbA⟩)) | (go_at_call 17; (with_reducible refine (HTR.out _ (Hid.out (by assumption))).mono ?_); (rintro e wB ⟨rfl, hbB⟩)) | (have hownB : (wB.alloc (Obj.cells (bc T).toArray 26)).ownsRow w.heap.size 26 32 vA p.length (bc p.flatten) := (own_below hownA hbB).alloc _; refine step_append_lies _ rfl (.tmp 32) (.tmp 37) 30 rfl w.heap.size 26 i0 _ 32 32 Tryd.underlying30 HI.out.1 HI.out.2.1 HI.out.2.2.1 HI.out.2.2.2 rfl (by decide) vA p.length (bc p.flatten) rfl hownB ⟨wB.heap.size, 0, none⟩ 1 1 (bc T) rfl (by rw [bc_len, HTL.out]) (by have := World.news_of_block (heap_alloc_new wB (.cells (bc T).toArray 26)); simpa using this) (bc_one T) (by decide) (by have := HPN.out; unfold maxLen; omega) (by have := HPN.out; omega) (keep_size (by assumption)) _ rfl ?_; intro g capC wC hownC hgC hatC hltC))
  have HC := hide hownC
  have HB := hide (keep_g hgC hownB (keep_b (below_new _ _) (keep_b hbB (keep_b hbA HK0))))
  clear hownC hgC hatC hownB hownA
  go_wp2_with fail
  go_ret
  rw [HMO.out]
  refine ⟨_, rfl, ?_, HB.out.out⟩
  have := HC.out
  rw [← bc_append] at this
  simpa using this
theorem path_all (n : Nat) : n ≤ 1000 → PathAt n := by
  induction n using Nat.strongRecOn with
  | _ n ih =>
    intro hn
    by_cases h2 : 2 ≤ n
    · intro l m cap k kk a w hl hm hkk hk hT hD hL hcap hcap'
      subst hkk
      by_cases hkh : k < hp n
      · exact path_left n h2 hn (fun j hj => ih j hj (by omega)) l m cap k a w hl hm hkh hT hD hL hcap hcap'
      · exact path_right n h2 hn (fun j hj => ih j hj (by omega)) l m cap k a w hl hm (by omega) hk hT hD hL hcap hcap'
    · by_cases h1 : n = 1
      · exact path_one n h1
      · intro l m cap k kk a w hl hm hkk hk
        omega

theorem pathTo_any (l : List (List UInt8)) (m cap k : Nat) (a : Option Addr) (w : World) (hT : Tab w) (hD : D32 l) (hL : Ds w a l) (hm : m = l.length) (hk : k < m) (hn : m ≤ 1000) (hcap : m ≤ cap) (hcap' : cap ≤ 9223372036854775807) :
    Calls Tryd.prog 40 #[.slice a m cap, .int .i64 (k : Nat)] w (PathPost (pathL l k) w) :=
  path_all m hn l m cap k k a w hm.symm rfl rfl hk hT hD hL hcap hcap'
end Go.Proofs.YtnopibpakchejaaDoor
