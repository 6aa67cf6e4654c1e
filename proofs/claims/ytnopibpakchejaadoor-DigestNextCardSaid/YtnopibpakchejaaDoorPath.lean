/- pathTo, Path. -/
import Derived.Test.YtnopibpakchejaaDoorTree2
import Derived.Deep.AppendLies
namespace Go.Proofs.YtnopibpakchejaaDoor
open Go.RowKit

theorem Tryd.info26 : (Tryd.prog.info? 26).map (fun i => (i.zero, i.size, i.bytes)) = some (some (.agg (List.replicate 32 (Value.int .u8 0)).toArray), 32, 32) := by kernel_rfl

theorem fold_zip : ∀ (xs pre post : List Value), post.length = xs.length → List.foldl (fun (cs : Array Value) (x : Value × Nat) => cs.setIfInBounds x.snd x.fst) (pre ++ post).toArray (xs.zipIdx pre.length) = (pre ++ xs).toArray
  | [], pre, post, h => by
    have : post = [] := List.length_eq_zero_iff.1 h
    subst this
    rfl
  | x :: xs, pre, p :: post, h => by
    rw [List.zipIdx_cons, List.foldl_cons]
    have e : (pre ++ p :: post).toArray.setIfInBounds pre.length x = ((pre ++ [x]) ++ post).toArray := by simp
    have := fold_zip xs (pre ++ [x]) post (by simpa using h)
    rw [List.length_append, List.length_singleton] at this
    rw [e, this]
    simp
theorem fold_dv (d : List UInt8) (h : d.length = 32) : List.foldl (fun (cs : Array Value) (x : Value × Nat) => cs.setIfInBounds x.snd x.fst) #[Value.int IntKind.u8 0, Value.int IntKind.u8 0, Value.int IntKind.u8 0, Value.int IntKind.u8 0, Value.int IntKind.u8 0, Value.int IntKind.u8 0, Value.int IntKind.u8 0, Value.int IntKind.u8 0, Value.int IntKind.u8 0, Value.int IntKind.u8 0, Value.int IntKind.u8 0, Value.int IntKind.u8 0, Value.int IntKind.u8 0, Value.int IntKind.u8 0, Value.int IntKind.u8 0, Value.int IntKind.u8 0, Value.int IntKind.u8 0, Value.int IntKind.u8 0, Value.int IntKind.u8 0, Value.int IntKind.u8 0, Value.int IntKind.u8 0, Value.int IntKind.u8 0, Value.int IntKind.u8 0, Value.int IntKind.u8 0, Value.int IntKind.u8 0, Value.int IntKind.u8 0, Value.int IntKind.u8 0, Value.int IntKind.u8 0, Value.int IntKind.u8 0, Value.int IntKind.u8 0, Value.int IntKind.u8 0, Value.int IntKind.u8 0] (bc d).zipIdx = (bc d).toArray := by
  have := fold_zip (bc d) [] (List.replicate 32 (Value.int .u8 0)) (by rw [bc_len, h]; simp)
  exact this

theorem steps_le (n : Nat) : ∀ k, stepsL k n ≤ n := by
  induction n using Nat.strongRecOn with
  | _ n ih =>
    intro k
    by_cases h : n ≤ 1
    · rw [stepsL_one h]; omega
    · have h2 := hp_lt (n := n) (by omega)
      have h1 := hp_pos n
      by_cases hk : k < hp n
      · rw [stepsL_left (by omega) hk]
        have := ih (hp n) h2 k
        omega
      · rw [stepsL_right (by omega) (by omega)]
        have := ih (n - hp n) (by omega) (k - hp n)
        omega
/-- A list of digests of the call's own. -/
def PathPost (l : List (List UInt8)) (w : World) (e : Ending) (w' : World) : Prop := ∃ v, e = .returned v ∧ w'.ownsRow w.heap.size 26 32 v l.length (bc l.flatten) ∧ Below w.heap.size w w'

def PathAt (n : Nat) : Prop := ∀ (l : List (List UInt8)) (m cap k : Nat) (kk : Int) (a : Option Addr) (w : World), l.length = n → m = n → kk = k → k < n → Tab w → D32 l → Ds w a l → n ≤ cap → cap ≤ 9223372036854775807 →
  Calls Tryd.prog 40 #[.slice a m cap, .int .i64 kk] w (PathPost (pathL l k) w)

theorem own_below {w w' : World} {base e size : Nat} {v : Value} {n : Nat} {xs : List Value} (h : w.ownsRow base e size v n xs) (hb : Below w.heap.size w w') : w'.ownsRow base e size v n xs := by
  refine ⟨h.1, h.2.imp id ?_⟩
  rintro ⟨g, cap, cur, e1, e2, e3, e4⟩
  exact ⟨g, cap, cur, e1, e2, (hb.block g (Array.getElem?_eq_some_iff.1 e3).1).trans e3, e4⟩

theorem keep_b {w W W' : World} (hb : Below W.heap.size W W') (h : Hid (Below w.heap.size w W)) : Hid (Below w.heap.size w W') := hide (below_one h.out hb)
theorem keep_size {a w : World} {B : Nat} (h : Hid (Below B a w)) : a.heap.size ≤ w.heap.size := h.out.size
theorem keep_g {w W W' : World} {e size n : Nat} {v : Value} {xs : List Value} (hg : W.grownBy W' v.ownBlock) (ho : W.ownsRow w.heap.size e size v n xs) (h : Hid (Below w.heap.size w W)) : Hid (Below w.heap.size w W') :=
  hide (h.out.grown hg h.out.size fun k hk => (ho.lt k hk).1)
theorem path_one (n : Nat) (hn : n = 1) : PathAt n := by
  subst hn
  intro l m cap k kk a w hl hm hkk hk hT hD hL hcap hcap'
  subst hm
  have HP := hide (pathL_one (l := l) (by omega) k)
  clear hT hL hD
  go_enter Tryd.func40, Tryd.ntmps40
  go_wp2_with fail
  go_ret
  rw [HP.out]
  exact ⟨_, rfl, ⟨rfl, .inl ⟨rfl, rfl⟩⟩, Below.refl _ _⟩

set_option maxRecDepth 10000 in
set_option maxHeartbeats 800000 in
theorem path_left (n : Nat) (h2 : 2 ≤ n) (hn : n ≤ 1000) (ih : ∀ k, k < n → PathAt k) (l : List (List UInt8)) (m cap k : Nat) (a : Option Addr) (w : World) (hl : l.length = n) (hm : m = n) (hk : k < hp n) (hT : Tab w) (hD : D32 l) (hL : Ds w a l) (hcap : n ≤ cap) (hcap' : cap ≤ 9223372036854775807) :
    Calls Tryd.prog 40 #[.slice a m cap, .int .i64 (k : Nat)] w (PathPost (pathL l k) w) := by
  subst hm
  obtain ⟨b, o, rfl, hB⟩ := hL.at hD (by omega)
  have hp1 := hp_pos m
  have hp2 := hp_lt h2
  have blt : b < w.heap.size := hB.lt (by rw [hD.flat]; omega)
  have HPL := hide (fun (W : World) (hW : Below w.heap.size w W) => ih (hp m) hp2 (l.take (hp m)) (hp m) cap k (k : Nat) (some ⟨b, o, none⟩) W (by simp; omega) rfl rfl hk (hT.below hW) (hD.take _) (Ds.of (bs_take hD (hB.below hW blt) _)) (by omega) (by omega))
  have HTR := hide (fun (W : World) (hW : Below w.heap.size w W) => tree_any (l.drop (hp m)) (m - hp m) (cap - hp m) (some ⟨b, o + hp m * 32, none⟩) W (hT.below hW) (hD.drop _) (Ds.of (by rw [Nat.mul_comm]; exact bs_drop hD (hB.below hW blt) _)) (by simp; omega) (by omega) (by omega) (by omega))
  have HMO := hide (show pathL l k = pathL (l.take (hp m)) k ++ [treeL (l.drop (hp m))] by rw [pathL_left (by omega) (by rw [hl]; exact hk), hl])
  have HFP := hide (fun (W : World) => firstPart_any m W h2 (by omega))
  have HTL := hide (treeL_len (l.drop (hp m)))
  have HPN := hide (show (pathL (l.take (hp m)) k).length ≤ 1000 by
    rw [path_steps (hp m) _ _ (by simp; omega)]
    have := steps_le (hp m) k
    omega)
  generalize hp m = h at *
  clear hT hL hB ih hl hD
  obtain ⟨i0, hi, hz0, hz1, hz2⟩ := info_parts Tryd.info26
  have HI := hide (And.intro hi (And.intro hz0 (And.intro hz1 hz2)))
  clear hi hz0 hz1 hz2
  generalize treeL (l.drop h) = T at *
  generalize pathL (l.take h) k = p at *
  go_enter Tryd.func40, Tryd.ntmps40
  go_wp2_with (go_at_call 36; refine (HFP.out _).mono ?_; rintro e w' ⟨rfl, rfl⟩)
  have i1 : (0 : Int) ≤ (h : Int) := by omega
  have i2 : (h : Int) ≤ (m : Int) := by omega
  have i3 : (h : Int) ≤ (cap : Int) := by omega
  have i4 : (m : Int) ≤ (cap : Int) := by omega
  have i5 : ¬ cap = h := by omega
  have HK0 := hide (below_one (Below.refl w.heap.size w) ((Below.refl _ w).drew))
  have hT1 : (bc T).toArray.size = 32 := dv_size _ HTL.out
  have hfold := fold_dv T HTL.out
  go_region_held3 (fun w' => Hid (Below w.heap.size w w'))
    (first | exact hide (Below.drew (Below.refl _ _)) | ((refine hide (below_one (Hid.out ?_) (below_new _ _))); assumption) | (apply keep_b; assumption; assumption) | exact keep_g hgC hownB (by assumption))
    (first | (go_at_call 40; (with_reducible refine (HPL.out _ (Hid.out (by assumption))).mono ?_); (rintro e wA ⟨vA, rfl, hownA, hbA⟩)) | (go_at_call 17; (with_reducible refine (HTR.out _ (Hid.out (by assumption))).mono ?_); (rintro e wB ⟨rfl, hbB⟩)) | (have hownB : (wB.alloc (Obj.cells (bc T).toArray 26)).ownsRow w.heap.size 26 32 vA p.length (bc p.flatten) := (own_below hownA hbB).alloc _; refine step_append_lies _ rfl (.tmp 19) (.tmp 24) 30 rfl w.heap.size 26 i0 _ 32 32 Tryd.underlying30 HI.out.1 HI.out.2.1 HI.out.2.2.1 HI.out.2.2.2 rfl (by decide) vA p.length (bc p.flatten) rfl hownB ⟨wB.heap.size, 0, none⟩ 1 1 (bc T) rfl (by rw [bc_len, HTL.out]) (by have := World.news_of_block (heap_alloc_new wB (.cells (bc T).toArray 26)); simpa using this) (bc_one T) (by decide) (by have := HPN.out; unfold maxLen; omega) (by have := HPN.out; omega) (keep_size (by assumption)) _ rfl ?_; intro g capC wC hownC hgC hatC hltC))
  have HC := hide hownC
  have HB := hide (keep_g hgC hownB (keep_b (below_new _ _) (keep_b hbB (keep_b hbA HK0))))
  clear hownC hgC hatC hownB hownA
  go_wp2_with fail
  go_ret
  rw [HMO.out]
  refine ⟨_, rfl, ?_, HB.out.out⟩
  have := HC.out
  rw [← bc_append] at this
  simpa using this
end Go.Proofs.YtnopibpakchejaaDoor
