/- XLkEx; XLnRef; XMacR; XStMath; XTxSl; XStReadAll -/
import Derived.Test.YtnpembgchmmbjaaGreatLk13
import Derived.Test.YtnpembgchmmbjaaGreatLk01
import Derived.Test.YtnpembgchmmbjaaGreatLk05
import Derived.Test.YtnpembgchmmbjaaGreatLk04
import Derived.Test.YtnpembgchmmbjaaGreatLk03
import Derived.WalkMore
import Derived.Deep.QuietTactic
import Derived.Laws.AppendOwnNone
import Derived.SliceStrings
import Derived.SizedLaws
import Derived.WalkKit
import Derived.ProofKit
import Derived.Lib.Hide
import Derived.Deep.AppendLies
import Derived.Deep.RegionLaw
import Derived.Deep.RegionHeld3
import Derived.ShutString
import Derived.StillTailTactics
import Derived.BigQuiet
import Derived.Lib.Bytealg
import Derived.Deep.DeepFit
import Derived.Test.YtnpembgchmmbjaaGreatRows
import Derived.Great.BuildSlice
import Derived.RegionTactic
/- The example of chapter 17, as the laws ask for it. (Made by mk-lkex.py.) -/
namespace Go.Proofs.YtnpembgchmmbjaaGreat
open Go.RowKit

/-- several blocks, one behind the other -/
def allocs (w : World) (os : List Obj) : World := os.foldl World.alloc w
theorem allocs_size : ∀ (os : List Obj) (w : World), (allocs w os).heap.size = w.heap.size + os.length
  | [], _ => rfl
  | o :: r, w => by
    show (allocs (w.alloc o) r).heap.size = _
    rw [allocs_size r, List.length_cons]; simp; omega
theorem allocs_below : ∀ (os : List Obj) (w : World), Below w.heap.size w (allocs w os)
  | [], _ => Below.refl _ _
  | o :: r, w => trans_below (alloc_below w o) (allocs_below r (w.alloc o))
theorem allocs_at : ∀ (os : List Obj) (w : World) (i : Nat) (o : Obj), os[i]? = some o → (allocs w os).heap[w.heap.size + i]? = some o
  | [], _, _, _, h => by simp at h
  | x :: r, w, 0, o, h => by
    obtain rfl : x = o := by simpa using h
    exact ((allocs_below r (w.alloc x)).block w.heap.size (by simp)).trans (heap_alloc_new w x)
  | x :: r, w, i + 1, o, h => by
    have := allocs_at r (w.alloc x) i o (by simpa using h)
    rw [show (w.alloc x).heap.size + i = w.heap.size + (i + 1) by simp; omega] at this
    exact this
/-- a row laid out whole: its elements' cells one behind the other -/
theorem rsl_rows {α : Type} (R : Rdr α) (w : World) (F : Nat → Prop) (b : Nat) (xs : List α) (vss : List (List Value)) (T : TypeId) (hF : F b) (hw : w.heap[b]? = some (.cells vss.flatten.toArray T)) (hl : xs.length ≤ 1000) (h : ∀ (j : Nat) (x : α), xs[j]? = some x → ∃ vs, vss[j]? = some vs ∧ R.rd w F vs x) : RSl R w F (some ⟨b, 0, none⟩) xs.length xs.length xs := by
  refine ⟨rfl, Nat.le_refl _, by unfold maxLen; omega, (fun h => by cases h), fun hn => ⟨b, 0, rfl, hF, ?_, fun j x hx => ?_⟩⟩
  · rcases Nat.lt_or_ge b w.heap.size with g | g
    · exact g
    · rw [Array.getElem?_eq_none g] at hw; cases hw
  · obtain ⟨vs, e, hr⟩ := h j x hx
    refine ⟨vs, hr, fun i v hv => ?_⟩
    have key : ∀ (k : Nat) (ys : List α) (us : List (List Value)), (∀ (j : Nat) (x : α), ys[j]? = some x → ∃ vs, us[j]? = some vs ∧ R.rd w F vs x) → ∀ vs x, ys[k]? = some x → us[k]? = some vs → vs[i]? = some v → us.flatten[k * R.n + i]? = some v := by
      intro k
      induction k with
      | zero =>
        intro ys us hu vs x hy he hi
        match us, he with
        | u :: us, he =>
          obtain rfl : u = vs := by simpa using he
          rw [Nat.zero_mul, Nat.zero_add, List.flatten_cons, List.getElem?_append_left]
          · exact hi
          · exact (List.getElem?_eq_some_iff.1 hi).1
      | succ k ih =>
        intro ys us hu vs x hy he hi
        match ys, us, hy, he with
        | y :: ys, u :: us, hy, he =>
          obtain ⟨u', hu', hr'⟩ := hu 0 y rfl
          obtain rfl : u = u' := by simpa using hu'
          have hlen := R.len hr'
          rw [List.flatten_cons, List.getElem?_append_right (by rw [hlen, Nat.succ_mul]; omega), hlen, show (k + 1) * R.n + i - R.n = k * R.n + i by rw [Nat.succ_mul]; omega]
          exact ih ys us (fun j x hx => by have := hu (j + 1) x (by simpa using hx); simpa using this) vs x (by simpa using hy) (by simpa using he) hi
    have := key j xs vss h vs x hx e hv
    rw [Nat.zero_add, World.cell?, hw]
    simpa using this
theorem otX_ok {N : NV} (h : NetOk N) (p : Int) : otX N p = otC N p := by unfold otX; rw [if_pos (netB_yes h)]
theorem crX_ok {N : NV} (h : NetOk N) (p v : Int) : crX N p v = crT N p v := by unfold crX; rw [if_pos (netB_yes h)]
def ex17 : NV := ⟨[⟨0, 0, [97], 0, 0⟩, ⟨0, 0, [98], 0, 0⟩], [⟨0, 0, 10, 0, 0, [112], [20]⟩, ⟨0, 1, 30, 0, 0, [112], [20]⟩], [⟨0, 0, 1⟩], [⟨0, 10, 0, -1, 0, []⟩, ⟨0, 20, 0, -1, 0, []⟩, ⟨1, 30, 0, -1, 0, []⟩, ⟨1, 20, 0, -1, 0, []⟩], [], [], [], []⟩
theorem lt2 {i : Nat} (h : i < 2) : i = 0 ∨ i = 1 := by omega
theorem lt4 {i : Nat} (h : i < 4) : i = 0 ∨ i = 1 ∨ i = 2 ∨ i = 3 := by omega
theorem ex17_ok : NetOk ex17 := by
  refine ⟨by decide, by decide, by decide, by decide, by decide, by decide, by decide, by decide, ⟨?_, ?_⟩, ?_, ?_, ⟨?_, ?_, ?_, ?_⟩⟩
  · intro i hi
    rcases lt4 hi with rfl | rfl | rfl | rfl <;> exact ⟨by decide, by decide, by decide, by decide, .inl rfl⟩
  · intro i hi
    rcases lt4 hi with rfl | rfl | rfl | rfl <;> exact fun j hj => absurd hj (Nat.not_lt_zero _)
  · intro i hi
    rcases lt2 hi with rfl | rfl
    · exact ⟨by decide, by decide, by decide, by decide, by decide, by decide, fun _ => by decide, fun j hj => (by obtain rfl := one_lt hj; decide), .inr ⟨by decide, .inl rfl⟩⟩
    · exact ⟨by decide, by decide, by decide, by decide, by decide, by decide, fun _ => by decide, fun j hj => (by obtain rfl := one_lt hj; decide), .inr ⟨by decide, .inr rfl⟩⟩
  · intro i hi
    obtain rfl := one_lt hi
    exact ⟨by decide, by decide, by decide, rfl, rfl⟩
  all_goals exact fun i hi => absurd hi (Nat.not_lt_zero _)
theorem ex17_sz : NvSz ex17 := by
  refine ⟨by decide, by decide, by decide, by decide, by decide, by decide, by decide, by decide, ?_, ?_, ?_, ?_⟩
  · intro i hi
    rcases lt2 hi with rfl | rfl <;> decide
  · intro i hi
    rcases lt4 hi with rfl | rfl | rfl | rfl <;> decide
  all_goals exact fun i hi => absurd hi (Nat.not_lt_zero _)
def ex17S (q : Nat) : NSl3 := ⟨⟨some ⟨q, 0, none⟩, 2, 2⟩, ⟨some ⟨q + 1 + 1 + 1, 0, none⟩, 2, 2⟩, ⟨some ⟨q + 1 + 1 + 1 + 1, 0, none⟩, 1, 1⟩, ⟨some ⟨q + 1 + 1 + 1 + 1 + 1, 0, none⟩, 4, 4⟩, Sl3.nil, Sl3.nil, Sl3.nil, Sl3.nil⟩
def ex17O (q : Nat) : List Obj := [.cells #[.int .i64 0, .int .i64 0, .string ⟨#[97]⟩, .int .u64 0, .int .u32 0, .int .i64 0, .int .i64 0, .string ⟨#[98]⟩, .int .u64 0, .int .u32 0] 56, .cells #[.int .i64 20] 3, .cells #[.int .i64 20] 3, .cells #[.int .i64 0, .int .i64 0, .int .i64 10, .int .i64 0, .int .i64 0, .string ⟨#[112]⟩, .slice (some ⟨q + 1, 0, none⟩) 1 1, .int .i64 0, .int .i64 1, .int .i64 30, .int .i64 0, .int .i64 0, .string ⟨#[112]⟩, .slice (some ⟨q + 1 + 1, 0, none⟩) 1 1] 52, .cells #[.int .i64 0, .int .i64 0, .int .i64 1] 58, .cells #[.int .i64 0, .int .i64 10, .int .i64 0, .int .i64 (-1), .int .i64 0, .slice none 0 0, .int .i64 0, .int .i64 20, .int .i64 0, .int .i64 (-1), .int .i64 0, .slice none 0 0, .int .i64 1, .int .i64 30, .int .i64 0, .int .i64 (-1), .int .i64 0, .slice none 0 0, .int .i64 1, .int .i64 20, .int .i64 0, .int .i64 (-1), .int .i64 0, .slice none 0 0] 60, .cells #[.slice (some ⟨q, 0, none⟩) 2 2, .slice (some ⟨q + 1 + 1 + 1, 0, none⟩) 2 2, .slice (some ⟨q + 1 + 1 + 1 + 1, 0, none⟩) 1 1, .slice (some ⟨q + 1 + 1 + 1 + 1 + 1, 0, none⟩) 4 4, .slice none 0 0, .slice none 0 0, .slice none 0 0, .slice none 0 0] 31]
theorem ex17_read (w : World) : NRead (allocs w (ex17O w.heap.size)) (allB (allocs w (ex17O w.heap.size))) ex17 (ex17S w.heap.size) := by
  have at_ := fun i o (h : (ex17O w.heap.size)[i]? = some o) => allocs_at (ex17O w.heap.size) w i o h
  have lt : ∀ k, k < 7 → w.heap.size + k < (allocs w (ex17O w.heap.size)).heap.size := fun k hk => by rw [allocs_size]; exact Nat.add_lt_add_left hk _
  have t1 := rsl_rows (Rdr.int .i64) _ (allB (allocs w (ex17O w.heap.size))) (w.heap.size + 1) [20] [[.int .i64 20]] 3 (lt 1 (by omega)) (at_ 1 _ rfl) (by decide) (fun j x hx => by
    match j, hx with
    | 0, hx => obtain rfl : 20 = x := by simpa using hx
               exact ⟨_, rfl, rfl⟩)
  have t2 := rsl_rows (Rdr.int .i64) _ (allB (allocs w (ex17O w.heap.size))) (w.heap.size + 2) [20] [[.int .i64 20]] 3 (lt 2 (by omega)) (at_ 2 _ rfl) (by decide) (fun j x hx => by
    match j, hx with
    | 0, hx => obtain rfl : 20 = x := by simpa using hx
               exact ⟨_, rfl, rfl⟩)
  refine ⟨rsl_rows devR _ _ (w.heap.size + 0) ex17.devices (ex17.devices.map devC) 56 (lt 0 (by omega)) (at_ 0 _ rfl) (by decide) (fun j x hx => ⟨_, by rw [List.getElem?_map, hx]; rfl, rfl⟩), ?_, rsl_rows linkR _ _ (w.heap.size + 4) ex17.links (ex17.links.map linkC) 58 (lt 4 (by omega)) (at_ 4 _ rfl) (by decide) (fun j x hx => ⟨_, by rw [List.getElem?_map, hx]; rfl, rfl⟩), ?_, RSl.nil, RSl.nil, RSl.nil, RSl.nil⟩
  · exact rsl_rows portR _ _ (w.heap.size + 3) ex17.ports [portC ⟨0, 0, 10, 0, 0, [112], [20]⟩ ⟨some ⟨w.heap.size + 1, 0, none⟩, 1, 1⟩, portC ⟨0, 1, 30, 0, 0, [112], [20]⟩ ⟨some ⟨w.heap.size + 2, 0, none⟩, 1, 1⟩] 52 (lt 3 (by omega)) (at_ 3 _ rfl) (by decide) (fun j x hx => by
      match j, hx with
      | 0, hx => obtain rfl : (⟨0, 0, 10, 0, 0, [112], [20]⟩ : PortV) = x := by simpa [ex17] using hx
                 exact ⟨_, rfl, _, rfl, t1⟩
      | 1, hx => obtain rfl : (⟨0, 1, 30, 0, 0, [112], [20]⟩ : PortV) = x := by simpa [ex17] using hx
                 exact ⟨_, rfl, _, rfl, t2⟩
      | j + 2, hx => simp [ex17] at hx)
  · exact rsl_rows domR _ _ (w.heap.size + 5) ex17.domains (ex17.domains.map fun D => domC D Sl3.nil) 60 (lt 5 (by omega)) (at_ 5 _ rfl) (by decide) (fun j x hx => ⟨_, by rw [List.getElem?_map, hx]; rfl, _, rfl, (by
      match j, hx with
      | 0, hx => obtain rfl : (⟨0, 10, 0, -1, 0, []⟩ : DomV) = x := by simpa [ex17] using hx
                 exact RSl.nil
      | 1, hx => obtain rfl : (⟨0, 20, 0, -1, 0, []⟩ : DomV) = x := by simpa [ex17] using hx
                 exact RSl.nil
      | 2, hx => obtain rfl : (⟨1, 30, 0, -1, 0, []⟩ : DomV) = x := by simpa [ex17] using hx
                 exact RSl.nil
      | 3, hx => obtain rfl : (⟨1, 20, 0, -1, 0, []⟩ : DomV) = x := by simpa [ex17] using hx
                 exact RSl.nil
      | j + 4, hx => simp [ex17] at hx)⟩)
set_option maxRecDepth 20000 in
set_option maxHeartbeats 8000000 in
theorem works17_any (w : World) : Calls Tryz.prog 6 #[] w fun e w' => e = .returned (.bool true) ∧ Below w.heap.size w w' := by
  obtain ⟨W, hW⟩ : ∃ W, allocs w (ex17O w.heap.size) = W := ⟨_, rfl⟩
  have R := ex17_read w
  have B := allocs_below (ex17O w.heap.size) w
  have Z := allocs_size (ex17O w.heap.size) w
  have C := allocs_at (ex17O w.heap.size) w 6 _ rfl
  rw [hW] at R B Z C
  have Z : W.heap.size = w.heap.size + 7 := Z
  have XC := fun (p v : Int) (wx : World) (hx : Below W.heap.size W wx) => xcross_any ex17 _ p v wx (R.up hx) ex17_sz
  have XD := fun (wx : World) (hx : Below W.heap.size W wx) => xdomain17_any ex17 _ 0 10 wx (R.up hx) ex17_sz
  have XO := fun (wx : World) (hx : Below W.heap.size W wx) => xother_any ex17 _ 1 wx (R.up hx) ex17_sz
  simp only [otX_ok ex17_ok, crX_ok ex17_ok] at XC XD XO
  have X1 := XC 0 10
  have X2 := XC 1 20
  have X3 := XC 0 30
  rw [show otC ex17 0 = 1 by decide, show crT ex17 0 10 = 30 by decide, crV_yes (by decide)] at X1
  rw [show otC ex17 1 = 0 by decide, show crT ex17 1 20 = 20 by decide, crV_yes (by decide)] at X2
  rw [show crT ex17 0 30 = 0 by decide, crV_no rfl] at X3
  rw [show crT ex17 0 10 = 30 by decide, show atF ex17 (ptA ex17 (otC ex17 0)).dev 30 = 2 by decide, dmV_yes (by decide)] at XD
  rw [show otC ex17 1 = 0 by decide] at XO
  have KN := Lib.hid (show ∀ wx, Below W.heap.size W wx → (wx.cell? ⟨w.heap.size + 1 + 1 + 1 + 1 + 1 + 1, 0, none⟩ = some (.slice (some ⟨w.heap.size, 0, none⟩) 2 2) ∧ wx.cell? ⟨w.heap.size + 1 + 1 + 1 + 1 + 1 + 1, 1, none⟩ = some (.slice (some ⟨w.heap.size + 1 + 1 + 1, 0, none⟩) 2 2) ∧ wx.cell? ⟨w.heap.size + 1 + 1 + 1 + 1 + 1 + 1, 2, none⟩ = some (.slice (some ⟨w.heap.size + 1 + 1 + 1 + 1, 0, none⟩) 1 1) ∧ wx.cell? ⟨w.heap.size + 1 + 1 + 1 + 1 + 1 + 1, 3, none⟩ = some (.slice (some ⟨w.heap.size + 1 + 1 + 1 + 1 + 1, 0, none⟩) 4 4) ∧ wx.cell? ⟨w.heap.size + 1 + 1 + 1 + 1 + 1 + 1, 4, none⟩ = some (.slice none 0 0) ∧ wx.cell? ⟨w.heap.size + 1 + 1 + 1 + 1 + 1 + 1, 5, none⟩ = some (.slice none 0 0) ∧ wx.cell? ⟨w.heap.size + 1 + 1 + 1 + 1 + 1 + 1, 6, none⟩ = some (.slice none 0 0) ∧ wx.cell? ⟨w.heap.size + 1 + 1 + 1 + 1 + 1 + 1, 7, none⟩ = some (.slice none 0 0)) ∧ Below w.heap.size w wx from fun wx hx => by
    have g := range_list (vs := [.slice (some ⟨w.heap.size, 0, none⟩) 2 2, .slice (some ⟨w.heap.size + 1 + 1 + 1, 0, none⟩) 2 2, .slice (some ⟨w.heap.size + 1 + 1 + 1 + 1, 0, none⟩) 1 1, .slice (some ⟨w.heap.size + 1 + 1 + 1 + 1 + 1, 0, none⟩) 4 4, .slice none 0 0, .slice none 0 0, .slice none 0 0, .slice none 0 0]) ((hx.block (w.heap.size + 6) (by omega)).trans C)
    exact ⟨⟨by simpa using g 0 _ rfl, by simpa using g 1 _ rfl, by simpa using g 2 _ rfl, by simpa using g 3 _ rfl, by simpa using g 4 _ rfl, by simpa using g 5 _ rfl, by simpa using g 6 _ rfl, by simpa using g 7 _ rfl⟩, trans_below B hx⟩)
  unfold netV ex17S Sl3.nil at X1 X2 X3 XD XO
  dsimp only at X1 X2 X3 XD XO
  replace X1 := Lib.hid X1
  replace X2 := Lib.hid X2
  replace X3 := Lib.hid X3
  replace XD := Lib.hid XD
  replace XO := Lib.hid XO
  clear XC R B Z C
  go_enter Tryz.func6, Tryz.ntmps6
  go_upto_region 2 with fail
  rw [show (((((((w.alloc (.cells #[.int .i64 0, .int .i64 0, .string ⟨#[97]⟩, .int .u64 0, .int .u32 0, .int .i64 0, .int .i64 0, .string ⟨#[98]⟩, .int .u64 0, .int .u32 0] 56)).alloc (.cells #[.int .i64 20] 3)).alloc (.cells #[.int .i64 20] 3)).alloc (.cells #[.int .i64 0, .int .i64 0, .int .i64 10, .int .i64 0, .int .i64 0, .string ⟨#[112]⟩, .slice (some ⟨w.heap.size + 1, 0, none⟩) 1 1, .int .i64 0, .int .i64 1, .int .i64 30, .int .i64 0, .int .i64 0, .string ⟨#[112]⟩, .slice (some ⟨w.heap.size + 1 + 1, 0, none⟩) 1 1] 52)).alloc (.cells #[.int .i64 0, .int .i64 0, .int .i64 1] 58)).alloc (.cells #[.int .i64 0, .int .i64 10, .int .i64 0, .int .i64 (-1), .int .i64 0, .slice none 0 0, .int .i64 0, .int .i64 20, .int .i64 0, .int .i64 (-1), .int .i64 0, .slice none 0 0, .int .i64 1, .int .i64 30, .int .i64 0, .int .i64 (-1), .int .i64 0, .slice none 0 0, .int .i64 1, .int .i64 20, .int .i64 0, .int .i64 (-1), .int .i64 0, .slice none 0 0] 60)).alloc (.cells #[.slice (some ⟨w.heap.size, 0, none⟩) 2 2, .slice (some ⟨w.heap.size + 1 + 1 + 1, 0, none⟩) 2 2, .slice (some ⟨w.heap.size + 1 + 1 + 1 + 1, 0, none⟩) 1 1, .slice (some ⟨w.heap.size + 1 + 1 + 1 + 1 + 1, 0, none⟩) 4 4, .slice none 0 0, .slice none 0 0, .slice none 0 0, .slice none 0 0] 31)) = W from hW]
  obtain ⟨f0, f1, f2, f3, f4, f5, f6, f7⟩ := (KN.out _ (Below.refl _ _)).1
  go_wp2_with (first
    | (go_at_call 18; (with_reducible refine (X1.out _ (Below.refl _ _)).mono ?_); rintro e w1_ ⟨rfl, hb⟩; have Y1 := Lib.hid (hb); obtain ⟨f0, f1, f2, f3, f4, f5, f6, f7⟩ := (KN.out _ Y1.out).1; clear hb)
    | (go_at_call 18; (with_reducible refine (X2.out _ Y1.out).mono ?_); rintro e w2_ ⟨rfl, hb⟩; have Y2 := Lib.hid (trans_below Y1.out hb); obtain ⟨f0, f1, f2, f3, f4, f5, f6, f7⟩ := (KN.out _ Y2.out).1; clear hb)
    | (go_at_call 19; (with_reducible refine (XD.out _ Y2.out).mono ?_); rintro e w3_ ⟨rfl, hb⟩; have Y3 := Lib.hid (trans_below Y2.out hb); obtain ⟨f0, f1, f2, f3, f4, f5, f6, f7⟩ := (KN.out _ Y3.out).1; clear hb)
    | (go_at_call 18; (with_reducible refine (X3.out _ Y3.out).mono ?_); rintro e w4_ ⟨rfl, hb⟩; have Y4 := Lib.hid (trans_below Y3.out hb); obtain ⟨f0, f1, f2, f3, f4, f5, f6, f7⟩ := (KN.out _ Y4.out).1; clear hb)
    | (go_at_call 15; (with_reducible refine (XO.out _ Y4.out).mono ?_); rintro e w5_ ⟨rfl, hb⟩; have Y5 := Lib.hid (trans_below Y4.out hb); obtain ⟨f0, f1, f2, f3, f4, f5, f6, f7⟩ := (KN.out _ Y5.out).1; clear hb))
  go_ret
  exact ⟨by first | rfl | simp, (KN.out _ Y5.out).2⟩
end Go.Proofs.YtnpembgchmmbjaaGreat

/- Rows and words: a text's rows, a row's words, words joined; each taken back. The contracts of palingref10.Word, Texts, Join. The contracts of palingref10.Texts and Join. The contract of palingref10.Rows. The contract of palingref10.Words. -/
namespace Go.Proofs.YtnpembgchmmbjaaGreat
open Go.RowKit

/-! Words. -/
/-! Words joined. -/
/-! Rows. -/
end Go.Proofs.YtnpembgchmmbjaaGreat

namespace Go.Proofs.YtnpembgchmmbjaaGreat
open Go.RowKit
open Go.Lib (byteCells)

end Go.Proofs.YtnpembgchmmbjaaGreat

namespace Go.Proofs.YtnpembgchmmbjaaGreat
open Go.RowKit
open Go.Lib (byteCells)

end Go.Proofs.YtnpembgchmmbjaaGreat

namespace Go.Proofs.YtnpembgchmmbjaaGreat
open Go.RowKit
open Go.Lib (byteCells)

/-- texts beside no error, else none -/
def os (E : Int) (ps : List (List UInt8)) : List (List UInt8) := if E = 0 then ps else []
end Go.Proofs.YtnpembgchmmbjaaGreat

namespace Go.Proofs.YtnpembgchmmbjaaGreat
open Go.RowKit
open Go.Lib (byteCells)

end Go.Proofs.YtnpembgchmmbjaaGreat

/- Addresses of 48 bits: the contracts of reading and of kinds (stage 1's). -/
/- Contracts of the small number functions of packages mac and palingref01 (Host, Group, IsHost, byteAt). -/
namespace Go.Proofs.YtnpembgchmmbjaaGreat.Mac
open Go.RowKit

theorem host_or (a : Int) (h0 : 0 ≤ a) (h1 : a < 4294967296) : bits .or .u64 2199023255552 a = 2199023255552 + a := by
  rw [u64_or _ _ (by omega) (by omega) h0 (by omega)]
  have : (2199023255552 : Int).toNat ||| a.toNat = 2199023255552 + a.toNat := by
    have := Nat.two_pow_add_eq_or_of_lt (i := 41) (b := a.toNat) (by omega) 1
    simpa using this.symm
  rw [this]; omega

theorem mask_48 (m : Int) (h0 : 0 ≤ m) (h1 : m < 18446744073709551616) : bits .and .u64 m 281474976710655 = m % 281474976710656 := by
  rw [u64_and _ _ h0 h1 (by omega) (by omega)]
  have : m.toNat &&& (281474976710655 : Int).toNat = m.toNat % 281474976710656 := Nat.and_two_pow_sub_one_eq_mod m.toNat 48
  rw [this]; omega

theorem bit_40 (m : Nat) : m &&& 1099511627776 = (m / 1099511627776 % 2) * 1099511627776 := by
  apply Nat.eq_of_testBit_eq
  intro i
  rw [Nat.testBit_and, show (1099511627776 : Nat) = 2 ^ 40 from rfl, Nat.testBit_two_pow, Nat.testBit_mul_two_pow]
  by_cases hi : 40 = i
  · subst hi
    rw [Nat.testBit_eq_decide_div_mod_eq]
    simp
  · rcases Nat.lt_or_ge i 40 with h | h
    · simp [hi]; omega
    · have : (m / 2 ^ 40 % 2).testBit (i - 40) = false := Nat.testBit_lt_two_pow (Nat.lt_of_lt_of_le (Nat.mod_lt _ (by decide)) (Nat.pow_le_pow_right (by decide : 0 < 2) (by omega : 1 ≤ i - 40)))
      simp [hi, this]

/-- an address's byte i, the highest first -/
def byt (m : Int) (i : Nat) : Int := m / 256 ^ (5 - i) % 256
/-- is the lowest bit of the highest byte 1? -/
def grp (m : Int) : Bool := decide (m / 1099511627776 % 2 = 1)

theorem group_and (m : Int) (h0 : 0 ≤ m) (h1 : m < 18446744073709551616) : (bits .and .u64 m 1099511627776 != 0) = grp m := by
  rw [u64_and _ _ h0 h1 (by omega) (by omega)]
  obtain ⟨n, rfl⟩ := Int.eq_ofNat_of_zero_le h0
  have := bit_40 n
  simp only [Int.toNat_natCast, show (1099511627776 : Int).toNat = 1099511627776 from rfl, this]
  unfold grp
  rw [Bool.eq_iff_iff]; simp; omega

theorem host_any (a : Int) (w : World) (h0 : 0 ≤ a) (h1 : a < 4294967296) :
    Calls Tryz.prog 173 #[.int .u32 a] w fun e w' => e = .returned (.int .u64 (2199023255552 + a)) ∧ w = w' := by
  have h := host_or a h0 h1
  go_enter Tryz.func173, Tryz.ntmps173
  go_wp2
  go_ret
  exact ⟨by simp, rfl⟩

theorem group_any (m : Int) (w : World) (h0 : 0 ≤ m) (h1 : m < 18446744073709551616) :
    Calls Tryz.prog 153 #[.int .u64 m] w fun e w' => e = .returned (.bool (grp m)) ∧ w = w' := by
  have h := group_and m h0 h1
  go_enter Tryz.func153, Tryz.ntmps153
  go_wp2
  go_ret
  exact ⟨by simp, rfl⟩

/-- the ip of a host's address, and whether it is one -/
def isHostB (m : Int) : Bool := decide (2199023255552 + m % 4294967296 = m % 281474976710656)
theorem isHost_any (m : Int) (w : World) (h0 : 0 ≤ m) (h1 : m < 18446744073709551616) :
    Calls Tryz.prog 152 #[.int .u64 m] w fun e w' => e = .returned (.tuple #[.int .u32 (if isHostB m = true then m % 4294967296 else 0), .bool (isHostB m)]) ∧ w = w' := by
  have h := mask_48 m h0 h1
  by_cases hh : isHostB m = true
  · have hd : ((2199023255552 + m % 4294967296) != (m % 281474976710656)) = false := by
      unfold isHostB at hh; simp at hh; simp [hh]
    rw [hh]
    have hx : Hid (isHostB m = true) := Lib.hid hh
    clear hh
    go_enter Tryz.func152, Tryz.ntmps152
    go_wp2_with (go_at_call 173; refine (host_any _ _ (by omega) (by omega)).mono ?_; rintro e w' ⟨rfl, rfl⟩)
    go_ret2
    exact ⟨by simp, rfl⟩
  · have hd : ((2199023255552 + m % 4294967296) != (m % 281474976710656)) = true := by
      unfold isHostB at hh; simp at hh; simp [hh]
    have h2 : isHostB m = false := by simpa using hh
    rw [h2]
    clear hh h2
    go_enter Tryz.func152, Tryz.ntmps152
    go_wp2_with (go_at_call 173; refine (host_any _ _ (by omega) (by omega)).mono ?_; rintro e w' ⟨rfl, rfl⟩)
    go_ret2
    exact ⟨by simp, rfl⟩

end Go.Proofs.YtnpembgchmmbjaaGreat.Mac

/- The contract of mac.Text: which text it writes. -/
namespace Go.Proofs.YtnpembgchmmbjaaGreat.Mac
open Go.RowKit

theorem Tryz.info5 : (Tryz.prog.info? 5).map (fun i => (i.zero, i.size, i.bytes)) = some (some (.int .u8 0), 1, 1) := by kernel_rfl

/-- the digit of a number below 16 -/
def hx (d : Int) : Int := if d < 10 then 48 + d else 87 + d
/-- the first i bytes' text -/
def textPre (m : Int) : Nat → List Int
  | 0 => []
  | k + 1 => textPre m k ++ (if 0 < k then [58] else []) ++ [hx (byt m k / 16), hx (byt m k % 16)]
end Go.Proofs.YtnpembgchmmbjaaGreat.Mac

/- The contract of palingref01.Bytes: an address's six bytes, in new memory. -/
namespace Go.Proofs.YtnpembgchmmbjaaGreat.Mac
open Go.RowKit

end Go.Proofs.YtnpembgchmmbjaaGreat.Mac

/- The contract of palingref01.Text: it writes the text that mac.Text writes. -/
namespace Go.Proofs.YtnpembgchmmbjaaGreat.Mac
open Go.RowKit

end Go.Proofs.YtnpembgchmmbjaaGreat.Mac

/- The contract of mac.Read: which address a text is, or that it is none. -/
namespace Go.Proofs.YtnpembgchmmbjaaGreat.Mac
open Go.RowKit

/-- the number of a digit, or -1 -/
def dg (c : Int) : Int := if 48 ≤ c ∧ c ≤ 57 then c - 48 else if 97 ≤ c ∧ c ≤ 102 then c - 87 else -1
/-- the byte at j -/
def sb (s : ByteArray) (j : Nat) : Int := ((s.data.toList.getD j 0).toNat : Int)
/-- is the address's byte j written as it should be? -/
def good (s : ByteArray) (j : Nat) : Prop := 0 ≤ dg (sb s (3 * j)) ∧ 0 ≤ dg (sb s (3 * j + 1)) ∧ (0 < j → sb s (3 * j - 1) = 58)
instance (s : ByteArray) (j : Nat) : Decidable (good s j) := by unfold good; infer_instance
/-- the number of the first k bytes -/
def val (s : ByteArray) : Nat → Int
  | 0 => 0
  | k + 1 => val s k * 256 + (dg (sb s (3 * k)) * 16 + dg (sb s (3 * k + 1)))
def rdB (s : ByteArray) : Bool := decide (s.size = 17) && (List.range 6).all fun j => decide (good s j)
def rdV (s : ByteArray) : Int := if rdB s = true then val s 6 else 0
end Go.Proofs.YtnpembgchmmbjaaGreat.Mac

/- Plain facts on texts of addresses: what is read is what was written. -/
namespace Go.Proofs.YtnpembgchmmbjaaGreat.Mac

end Go.Proofs.YtnpembgchmmbjaaGreat.Mac

/- The contract of palingref01.Read: it answers what mac.Read answers. -/
namespace Go.Proofs.YtnpembgchmmbjaaGreat.Mac
open Go.RowKit

end Go.Proofs.YtnpembgchmmbjaaGreat.Mac

/- What a line's words are, word by word: which line they make, or why none. -/
namespace Go.Proofs.YtnpembgchmmbjaaGreat
open Go.RowKit

/-- is a text a name? -/
noncomputable def nmB (s : List UInt8) : Bool := @decide (NameOk (str s)) (Classical.propDecidable _)
theorem nmB_iff (s : List UInt8) : nmB s = true ↔ NameOk (str s) := by
  unfold nmB
  exact @decide_eq_true_iff _ (Classical.propDecidable _)
/-- an address of 48 bits that a text is -/
def mcV (s : List UInt8) : Int := Mac.rdV (str s)
def mcB (s : List UInt8) : Bool := Mac.rdB (str s)
/-- may an address be a device's? -/
def stB (m : Int) : Bool := !Mac.isHostB m && !Mac.grp m
/-- may a prefix be an interface's? -/
def snB (A B : Int) : Bool := decide (1 ≤ B) && decide (B ≤ 30) && !decide (A = FS A B) && !decide (A = LS A B)
/-- a prefix's two numbers -/
def paV (s : List UInt8) : Int := (((pfF s).getD (0, 0)).1 : Nat)
def pbV (s : List UInt8) : Int := (((pfF s).getD (0, 0)).2 : Nat)
def dash : List UInt8 := [45]
def sAccess : List UInt8 := [97, 99, 99, 101, 115, 115]
def sTrunk : List UInt8 := [116, 114, 117, 110, 107]
def sPort : List UInt8 := [112, 111, 114, 116]
/-- a list, or none of - -/
def lsD (s : List UInt8) (hi : Int) : List Int := if s = dash then [] else lsV (rdI 1 hi) s
def lsDB (s : List UInt8) (hi : Int) : Bool := if s = dash then true else lsB (rdI 1 hi) s

/-- is a word what a letter asks for? P C M V W T I A L R S -/
def wdB (c : UInt8) (s : List UInt8) : Bool :=
  if c = 80 then nB s 0 65535 else if c = 67 then nB s 1 65535 else if c = 77 then mcB s && stB (mcV s) else if c = 86 then nB s 1 4094
  else if c = 87 then nB s 1 4094 || decide (s = dash) else if c = 84 then lsDB s 4094 else if c = 73 then nB s 1 16777215
  else if c = 65 then rdB s && decide (0 < rdV s) else if c = 76 then lsB rdA s && decide (0 < (lsV rdA s).getD 0 0) else if c = 82 then lsDB s 65535
  else if c = 83 then pfB s && snB (paV s) (pbV s) else false
/-- why a word is not what a letter asks for -/
noncomputable def wdE (c : UInt8) (s : List UInt8) : Int :=
  if c = 78 then (if nmB s = true then 0 else 20) else if c = 75 then (if s = sAccess ∨ s = sTrunk then 0 else 20) else if wdB c s = true then 0 else 21
/-- a name's place in a line -/
def nmL (s : List UInt8) (k : Nat) (L : LV) : LV :=
  if k = 0 then { L with dev := s } else if L.kind = 8 ∨ L.kind = 9 then { L with name := s } else if k = 1 then { L with port := s } else if k = 2 then { L with peer := s } else if k = 3 then { L with far := s } else L
/-- what a word makes of a line -/
def wdL (c : UInt8) (s : List UInt8) (k : Nat) (L : LV) : LV :=
  if c = 78 then nmL s k L else if c = 75 then L else if c = 80 then { L with num := nV s 0 65535 } else if c = 67 then { L with cost := nV s 1 65535 } else if c = 77 then { L with mac := mcV s }
  else if c = 86 then { L with vlan := nV s 1 4094 } else if c = 87 then { L with vlan := nV s 1 4094 } else if c = 84 then { L with tagged := lsD s 4094 } else if c = 73 then { L with num := nV s 1 16777215 }
  else if c = 65 then { L with addr := rdV s } else if c = 76 then { L with addrs := lsV rdA s } else if c = 82 then { L with imports := L.exports, exports := lsD s 65535 }
  else if c = 83 then { L with addr := paV s, bits := pbV s } else L

/-- words read by their letters -/
noncomputable def runS : List UInt8 → List (List UInt8) → Nat → LV → Int × LV
  | c :: f, s :: ws, k, L => if wdE c s = 0 then runS f ws (if c = 78 then k + 1 else k) (wdL c s k L) else (wdE c s, L)
  | _, _, _, L => (0, L)

/-- the letters of a first word's line; none: 0 -/
def kdV (s : List UInt8) : Int :=
  if s = [100, 101, 118, 105, 99, 101] then 1 else if s = sPort then 2 else if s = [108, 105, 110, 107] then 3 else if s = [115, 116, 97, 116, 105, 99] then 4 else if s = [118, 116, 101, 112] then 5
  else if s = [118, 110, 105] then 6 else if s = [102, 108, 111, 111, 100] then 7 else if s = [118, 114, 102] then 8 else if s = [105, 114, 98] then 9 else 0
def wat (ws : List (List UInt8)) (i : Nat) : List UInt8 := ws.getD i []
/-- the letters of words -/
def fmV (ws : List (List UInt8)) : List UInt8 :=
  if ws = [] then [] else if kdV (wat ws 0) = 1 then [78, 80, 77] else if kdV (wat ws 0) = 3 then [78, 78, 78, 78] else if kdV (wat ws 0) = 4 then [78, 86, 77, 78] else if kdV (wat ws 0) = 5 then [78, 65]
  else if kdV (wat ws 0) = 6 then [78, 86, 73] else if kdV (wat ws 0) = 7 then [78, 73, 76] else if kdV (wat ws 0) = 8 then [78, 78, 82, 82] else if kdV (wat ws 0) = 9 then [78, 86, 78, 83]
  else if kdV (wat ws 0) = 2 then (if ws.length = 7 ∧ ¬ wat ws 4 = sAccess then [78, 78, 67, 75, 87, 84] else if ws.length = 6 ∧ ¬ wat ws 4 = sTrunk then [78, 78, 67, 75, 86] else []) else []
/-- the letters that are gone through: those of the line; of a port whose fifth word is neither: up to it; none: the words are no line -/
def ltV (ws : List (List UInt8)) : List UInt8 := if fmV ws ≠ [] ∧ ws.length = (fmV ws).length + 1 then fmV ws else []
/-- may a port's VLANs be? -/
def mbB (L : LV) : Bool := L.tagged.all (fun x => !decide (x = L.vlan)) && (decide (0 < L.vlan) || decide (0 < L.tagged.length))
def LV.new (row kind : Int) : LV := ⟨row, kind, [], [], [], [], [], 0, 0, 0, 0, 0, 0, [], [], [], []⟩
/-- why words are no line -/
noncomputable def rdE (ws : List (List UInt8)) (row : Int) : Int :=
  if ltV ws = [] then 22 else
  let r := runS (ltV ws) (ws.drop 1) 0 (LV.new row (kdV (wat ws 0)))
  if r.1 = 0 then (if r.2.kind = 2 ∧ mbB r.2 = false then 21 else 0) else r.1
/-- the line that words are -/
noncomputable def rdL (ws : List (List UInt8)) (row : Int) : LV := if rdE ws row = 0 then (runS (ltV ws) (ws.drop 1) 0 (LV.new row (kdV (wat ws 0)))).2 else LV.zero
end Go.Proofs.YtnpembgchmmbjaaGreat

/- A line as data that cells read as; lists of lines. A slice of one line, laid out; a line appended to a row of the call's own. -/
namespace Go.Proofs.YtnpembgchmmbjaaGreat
open Go.RowKit

/-- the cells of a line -/
def lineC (L : LV) (s1 s2 s3 s4 : SlV) : List Value := [.int .i64 L.row, .int .i64 L.kind, .string (str L.dev), .string (str L.port), .string (str L.peer), .string (str L.far), .string (str L.name), .int .u64 L.mac, .int .u32 L.addr, .int .i64 L.bits, .int .i64 L.vlan, .int .i64 L.num, .int .i64 L.cost, .slice s1.A s1.n s1.c, .slice s2.A s2.n s2.c, .slice s3.A s3.n s3.c, .slice s4.A s4.n s4.c]
end Go.Proofs.YtnpembgchmmbjaaGreat

namespace Go.Proofs.YtnpembgchmmbjaaGreat
open Go.RowKit

theorem Tryz.info37 : (Tryz.prog.info? 37).map (fun i => (i.zero, i.size)) = some (some (lineV LV.zero SlV.nil SlV.nil SlV.nil SlV.nil), 17) := by kernel_rfl
end Go.Proofs.YtnpembgchmmbjaaGreat

/- The contract of palingref11.Read. The chapter's examples: which lines they are, or why none. -/
namespace Go.Proofs.YtnpembgchmmbjaaGreat
open Go.RowKit

theorem fm_port7 {ws : List (List UInt8)} (p : wat ws 0 = sPort) (r : ws.length = 7) (g : ¬ wat ws 4 = sAccess) : fmV ws = [78, 78, 67, 75, 87, 84] := by
  have h0 : ¬ ws = [] := by intro e; subst e; cases r
  have k : kdV (wat ws 0) = 2 := by rw [p]; decide +kernel
  unfold fmV
  rw [if_neg h0, if_neg (by rw [k]; decide), if_neg (by rw [k]; decide), if_neg (by rw [k]; decide), if_neg (by rw [k]; decide), if_neg (by rw [k]; decide), if_neg (by rw [k]; decide), if_neg (by rw [k]; decide), if_neg (by rw [k]; decide), if_pos k, if_pos ⟨r, g⟩]
end Go.Proofs.YtnpembgchmmbjaaGreat

namespace Go.Proofs.YtnpembgchmmbjaaGreat
open Go.RowKit

def exW2 : List (List UInt8) := [[112, 111, 114, 116], [115, 119, 49], [112, 49], [52], [116, 114, 117, 110, 107], [49, 48], [49, 48, 44, 50, 48]]
def exL1 : LV := { LV.new 7 2 with dev := [115, 119, 49], port := [112, 49], cost := 4, vlan := 10 }
theorem st_itoa10 : Lib.itoa 10 = [49, 48] := by rw [show (10 : Int) = ((10 : Nat) : Int) from rfl, itoa_pos, dec_big (by omega), dec_small (by omega)]; rfl
theorem st_itoa20 : Lib.itoa 20 = [50, 48] := by rw [show (20 : Int) = ((20 : Nat) : Int) from rfl, itoa_pos, dec_big (by omega), dec_small (by omega)]; rfl
theorem st_itoa4 : Lib.itoa 4 = [52] := by rw [show (4 : Int) = ((4 : Nat) : Int) from rfl, itoa_pos, dec_small (by omega)]; rfl
theorem st_n10 : nF [49, 48] 1 4094 = some 10 := nF_iff.2 ⟨st_itoa10, by decide, by omega, by omega⟩
theorem st_n20 : nF [50, 48] 1 4094 = some 20 := nF_iff.2 ⟨st_itoa20, by decide, by omega, by omega⟩
theorem st_n4 : nF [52] 1 65535 = some 4 := nF_iff.2 ⟨st_itoa4, by decide, by omega, by omega⟩
theorem st_list : rlF (rdI 1 4094) [49, 48, 44, 50, 48] = some [10, 20] := by
  refine rlF_yes ?_ (by decide)
  rw [show splitC [49, 48, 44, 50, 48] = [[49, 48], [50, 48]] by decide]
  simp [allRd, rdI, st_n10, st_n20]
theorem st_sw1 : nmB [115, 119, 49] = true := (nmB_iff _).2 ⟨by decide, by decide, ⟨by decide, by decide⟩, fun j hj => by
  have hj2 : j < 3 := hj
  have : j = 0 ∨ j = 1 ∨ j = 2 := by omega
  rcases this with rfl | rfl | rfl
  · exact .inl ⟨by decide, by decide⟩
  · exact .inl ⟨by decide, by decide⟩
  · exact .inr ⟨by decide, by decide⟩⟩
theorem st_p1 : nmB [112, 49] = true := (nmB_iff _).2 ⟨by decide, by decide, ⟨by decide, by decide⟩, fun j hj => by
  have hj2 : j < 2 := hj
  have : j = 0 ∨ j = 1 := by omega
  rcases this with rfl | rfl
  · exact .inl ⟨by decide, by decide⟩
  · exact .inr ⟨by decide, by decide⟩⟩
theorem run_ok {c : UInt8} {f : List UInt8} {s : List UInt8} {ws : List (List UInt8)} {k : Nat} {L : LV} (h : wdE c s = 0) : runS (c :: f) (s :: ws) k L = runS f ws (if c = 78 then k + 1 else k) (wdL c s k L) := by rw [runS, if_pos h]
theorem wdE_N {s : List UInt8} (h : nmB s = true) : wdE 78 s = 0 := by show (if nmB s = true then (0 : Int) else 20) = 0; exact if_pos h
theorem wdE_num {c : UInt8} {s : List UInt8} {b : Bool} (e : wdE c s = if b = true then 0 else 21) (h : b = true) : wdE c s = 0 := by rw [e, if_pos h]
theorem wdE_K {s : List UInt8} (h : s = sAccess ∨ s = sTrunk) : wdE 75 s = 0 := by
  have e : wdE 75 s = if s = sAccess ∨ s = sTrunk then 0 else 20 := rfl
  rw [e, if_pos h]
theorem nB_of {s : List UInt8} {lo hi n : Int} (h : nF s lo hi = some n) : nB s lo hi = true ∧ nV s lo hi = n := by unfold nB nV; rw [h]; exact ⟨rfl, rfl⟩
theorem rd_of {ws : List (List UInt8)} {row : Int} {F : List UInt8} (hf : fmV ws = F) (h0 : F ≠ []) (h1 : ws.length = F.length + 1) {k : Int} (hk : kdV (wat ws 0) = k) {E : Int} {L : LV} (hr : runS F (ws.drop 1) 0 (LV.new row k) = (E, L)) :
    rdE ws row = (if E = 0 then (if L.kind = 2 ∧ mbB L = false then 21 else 0) else E) ∧ rdL ws row = if rdE ws row = 0 then L else LV.zero := by
  subst hf
  have e0 : ltV ws = fmV ws := if_pos ⟨h0, h1⟩
  constructor
  · unfold rdE
    rw [e0, if_neg h0, hk, hr]
  · unfold rdL
    rw [e0, hk, hr]
theorem ex2_run : runS [78, 78, 67, 75, 87, 84] (exW2.drop 1) 0 (LV.new 7 2) = (0, { exL1 with tagged := [10, 20] }) := by
  show runS [78, 78, 67, 75, 87, 84] [[115, 119, 49], [112, 49], [52], [116, 114, 117, 110, 107], [49, 48], [49, 48, 44, 50, 48]] 0 (LV.new 7 2) = _
  have c4 := nB_of st_n4
  have v10 := nB_of st_n10
  have hd : ¬ ([49, 48, 44, 50, 48] : List UInt8) = dash := by decide
  have t1 : lsDB [49, 48, 44, 50, 48] 4094 = true := by unfold lsDB; rw [if_neg hd]; exact (ls_yes st_list).2
  have t2 : lsD [49, 48, 44, 50, 48] 4094 = [10, 20] := by unfold lsD; rw [if_neg hd]; exact (ls_yes st_list).1
  rw [run_ok (wdE_N st_sw1), run_ok (wdE_N st_p1), run_ok (wdE_num (b := nB [52] 1 65535) rfl c4.1), run_ok (wdE_K (s := [116, 114, 117, 110, 107]) (.inr rfl)), run_ok (wdE_num (c := 87) (b := nB [49, 48] 1 4094 || decide ([49, 48] = dash)) rfl (by rw [v10.1]; rfl)), run_ok (wdE_num (c := 84) (b := lsDB [49, 48, 44, 50, 48] 4094) rfl t1)]
  show ((0 : Int), ({ LV.new 7 2 with dev := [115, 119, 49], port := [112, 49], cost := nV [52] 1 65535, vlan := nV [49, 48] 1 4094, tagged := lsD [49, 48, 44, 50, 48] 4094 } : LV)) = _
  rw [c4.2, v10.2, t2]
  rfl
theorem ex2 : rdE exW2 7 = 21 := by
  obtain ⟨h1, h2⟩ := rd_of (ws := exW2) (row := 7) (fm_port7 rfl rfl (by decide)) (by simp) rfl (show kdV (wat exW2 0) = 2 by decide +kernel) ex2_run
  rw [h1]
  decide +kernel
end Go.Proofs.YtnpembgchmmbjaaGreat

