/- The contract of mac.Text: which text it writes. -/
import Derived.Test.YtiafhjjnihpaaaaHost
import Derived.Deep.AppendLies
import Derived.Deep.RegionLaw
import Derived.Deep.RegionHeld3
import Derived.ShutString
import Derived.StillTailTactics
namespace Go.Proofs.Ytiafhjjnihpaaaa
open Go.RowKit

theorem Try.info5 : (Try.prog.info? 5).map (fun i => (i.zero, i.size, i.bytes)) = some (some (.int .u8 0), 1, 1) := by kernel_rfl

/-- the digit of a number below 16 -/
def hx (d : Int) : Int := if d < 10 then 48 + d else 87 + d
/-- the first i bytes' text -/
def textPre (m : Int) : Nat → List Int
  | 0 => []
  | k + 1 => textPre m k ++ (if 0 < k then [58] else []) ++ [hx (byt m k / 16), hx (byt m k % 16)]
def strOf (ns : List Int) : ByteArray := ⟨(ns.map fun n => UInt8.ofNat n.toNat).toArray⟩
theorem foldl_push (ns : List Int) : ∀ r : ByteArray, ns.foldl (fun r n => r.push (UInt8.ofNat n.toNat)) r = ⟨r.data ++ (ns.map fun n => UInt8.ofNat n.toNat).toArray⟩ := by
  induction ns with
  | nil => intro r; simp
  | cons n ns ih =>
    intro r
    rw [List.foldl_cons, ih]
    show ByteArray.mk (r.data.push _ ++ _) = _
    congr 1
    apply Array.ext'
    simp
abbrev digs : ByteArray := ⟨#[48, 49, 50, 51, 52, 53, 54, 55, 56, 57, 97, 98, 99, 100, 101, 102]⟩

theorem index_dig (d : Int) (h0 : 0 ≤ d) (h1 : d < 16) (w : World) : (Instr.index 9 (.string digs) (.int .u8 d)).run Try.prog w = .ok (.int .u8 (hx d)) w := by
  have : d = 0 ∨ d = 1 ∨ d = 2 ∨ d = 3 ∨ d = 4 ∨ d = 5 ∨ d = 6 ∨ d = 7 ∨ d = 8 ∨ d = 9 ∨ d = 10 ∨ d = 11 ∨ d = 12 ∨ d = 13 ∨ d = 14 ∨ d = 15 := by omega
  rcases this with rfl | rfl | rfl | rfl | rfl | rfl | rfl | rfl | rfl | rfl | rfl | rfl | rfl | rfl | rfl | rfl <;> (show Sem.run _ _ _ = Result.ok _ _; kernel_rfl)

theorem and_15 (a : Int) (h0 : 0 ≤ a) (h1 : a < 256) : bits .and .u8 a 15 = a % 16 := by
  rw [u8_and _ _ h0 h1 (by omega) (by omega)]
  have : a.toNat &&& (15 : Int).toNat = a.toNat % 16 := Nat.and_two_pow_sub_one_eq_mod a.toNat 4
  rw [this]; omega

theorem textPre_len (m : Int) (k : Nat) : (textPre m k).length ≤ 3 * k := by
  induction k with
  | zero => simp [textPre]
  | succ k ih => simp only [textPre, List.length_append]; split <;> simp <;> omega

/-- the text that owned bytes are turned into -/
theorem run_string_own (w : World) (B : Nat) (v : Value) (ns : List Int) (hown : w.ownsRow B 5 1 v ns.length (ns.map (Value.int .u8))) :
    (convert 34 9 v).run Try.prog w = .ok (.string (strOf ns)) w := by
  rcases hown.2 with ⟨rfl, hn⟩ | ⟨g, cap, cur, rfl, _, _, _⟩
  · have : ns = [] := List.eq_nil_of_length_eq_zero hn
    subst this
    rw [run_convert_bytes_string w _ _ _ _ _ _ Try.underlying34 Try.underlying5 Try.underlying9]
    show Sem.run _ _ _ = Result.ok _ _
    kernel_rfl
  · rw [run_convert_bytes_string w _ _ _ _ _ _ Try.underlying34 Try.underlying5 Try.underlying9]
    have hl := run_loadCells_list (P := Try.prog) (w := w) ⟨g, 0, none⟩ (ns.map (Value.int .u8)) (hown.cells rfl)
    rw [List.length_map] at hl
    rw [run_bytesToString w _ _ _ ns hl, foldl_push]
    simp [strOf, ByteArray.empty, ByteArray.emptyWithCapacity]
    rfl

theorem below_app {a w w' : World} {e : TypeId} {s n : Nat} {v : Value} {xs : List Value} (h : Below a.heap.size a w) (ho : w.ownsRow a.heap.size e s v n xs) (hg : w.grownBy w' v.ownBlock) : Below a.heap.size a w' :=
  h.grown hg h.size (fun k hk => (ho.lt k hk).1)

theorem text_more {a wr w1 w2 : World} {m : Int} {k g cap g2 cap2 : Nat} {u3 : Value} {o1 o2 : Obj} (h0 : 0 < k) (hbel : Below a.heap.size a wr)
    (hown : wr.ownsRow a.heap.size 5 1 u3 (textPre m k).length ((textPre m k).map (Value.int .u8)))
    (hown1 : w1.ownsRow a.heap.size 5 1 (.slice (some ⟨g, 0, none⟩) ((textPre m k).length + 1) cap) ((textPre m k).length + 1) ((textPre m k).map (Value.int .u8) ++ [.int .u8 58]))
    (hg1 : (wr.alloc o1).grownBy w1 u3.ownBlock)
    (hown2 : w2.ownsRow a.heap.size 5 1 (.slice (some ⟨g2, 0, none⟩) ((textPre m k).length + 1 + 2) cap2) ((textPre m k).length + 1 + 2) ((textPre m k).map (Value.int .u8) ++ [.int .u8 58] ++ [.int .u8 (hx (byt m k / 16)), .int .u8 (hx (byt m k % 16))]))
    (hg2 : ((w1.alloc o2).drew).grownBy w2 (Value.slice (some ⟨g, 0, none⟩) ((textPre m k).length + 1) cap).ownBlock) :
    w2.ownsRow a.heap.size 5 1 (.slice (some ⟨g2, 0, none⟩) ((textPre m k).length + 1 + 2) cap2) (textPre m (k + 1)).length ((textPre m (k + 1)).map (Value.int .u8)) ∧ Below a.heap.size a w2 := by
  have b1 := below_app (hbel.alloc hbel.size o1) (hown.alloc o1) hg1
  have b2 := below_app ((b1.alloc b1.size o2).drew) ((hown1.alloc o2).drew) hg2
  refine ⟨?_, b2⟩
  have e : textPre m (k + 1) = textPre m k ++ [58] ++ [hx (byt m k / 16), hx (byt m k % 16)] := by simp [textPre, h0]
  rw [e]
  simpa using hown2

theorem text_first {a wr w2 : World} {m : Int} {g2 cap2 : Nat} {u3 : Value} {o2 : Obj} (hbel : Below a.heap.size a wr)
    (hown : wr.ownsRow a.heap.size 5 1 u3 0 [])
    (hown2 : w2.ownsRow a.heap.size 5 1 (.slice (some ⟨g2, 0, none⟩) 2 cap2) 2 ([] ++ [.int .u8 (hx (byt m 0 / 16)), .int .u8 (hx (byt m 0 % 16))]))
    (hg2 : ((wr.alloc o2).drew).grownBy w2 u3.ownBlock) :
    w2.ownsRow a.heap.size 5 1 (.slice (some ⟨g2, 0, none⟩) 2 cap2) (textPre m 1).length ((textPre m 1).map (Value.int .u8)) ∧ Below a.heap.size a w2 := by
  have b2 := below_app ((hbel.alloc hbel.size o2).drew) ((hown.alloc o2).drew) hg2
  exact ⟨by simpa [textPre] using hown2, b2⟩

set_option maxHeartbeats 800000 in
theorem text_any (m : Int) (w : World) :
    Calls Try.prog 10 #[.int .u64 m] w fun e w' => e = .returned (.string (strOf (textPre m 6))) ∧ Below w.heap.size w w' := by
  obtain ⟨i0, hi, hz0, hz1, hz2⟩ := info_parts Try.info5
  have Hi := Lib.hid hi; have Hz0 := Lib.hid hz0; have Hz1 := Lib.hid hz1; have Hz2 := Lib.hid hz2
  clear hi hz0 hz1 hz2
  go_enter Try.func10, Try.ntmps10
  go_wp2_with (at_make; refine wpList_make_own _ rfl _ _ 34 rfl w.heap.size 5 i0 (.int .u8 0) 1 Try.underlying34 Hi.out Hz0.out Hz1.out .i64 .i64 _ 17 rfl rfl rfl (by rw [Hz2.out]; omega) (by unfold maxLen; omega) (Nat.le_refl _) ?_; intro w0 hown0 hgrow0)
  go_loopw [3, 7] (fun v i wr => ∃ k : Nat, k ≤ 6 ∧ i = .int .i64 k ∧ wr.ownsRow w.heap.size 5 1 v (textPre m k).length ((textPre m k).map (Value.int .u8)) ∧ Below w.heap.size w wr) (fun _ i _ => 6 - (intOf i).toNat)
  case atStart => exact ⟨0, by omega, rfl, hown0, (Below.refl _ _).grown hgrow0 (Nat.le_refl _) (fun _ h => by cases h)⟩
  case round =>
    obtain ⟨k, hk, rfl, hown, hbel⟩ := hrel
    have hlen := textPre_len m k
    by_cases hlt : k < 6
    · have b0 := byt_lo m k
      have b1 := byt_hi m k
      have A15 := and_15 (byt m k) b0 b1
      have I1 := index_dig (byt m k / 16) (by omega) (by omega)
      have I2 := index_dig (byt m k % 16) (by omega) (by omega)
      by_cases h0 : 0 < k
      · go_wp2_with (first
          | (at_builtin
             refine wpList_append_lies _ rfl (.tmp 12) (.tmp 13) 34 rfl w.heap.size 5 i0 (.int .u8 0) 1 1 Try.underlying34 Hi.out Hz0.out Hz1.out Hz2.out rfl (by decide) _ _ _ (by rfl) (hown.alloc _) ⟨wr.heap.size, 0, none⟩ 1 1 [.int .u8 58] rfl rfl (World.news_of_block (heap_alloc_new wr _)) (by simp [Value.oneCell']) (by omega) (by unfold maxLen; omega) (by omega) (by have := hbel.size; simp; omega) _ rfl ?_
             intro g cap w1 hown1 hgrow1 _ _)
          | (go_at_call 24; refine (byteAt_any _ _ _ (by omega)).mono ?_; rintro e w' ⟨rfl, rfl⟩))
        have hgs := hgrow1.size
        go_region_held3 (fun _ => True) (trivial) ((refine step_append_lies _ (by rfl) (.tmp 18) (.tmp 25) 34 (by rfl) w.heap.size 5 i0 (.int .u8 0) 1 1 Try.underlying34 Hi.out Hz0.out Hz1.out Hz2.out rfl (by decide) _ _ _ (by rfl) (hown1.drew.alloc _) ⟨w1.heap.size, 0, none⟩ 2 2 [.int .u8 (hx (byt m k / 16)), .int .u8 (hx (byt m k % 16))] (by rfl) (by rfl) (World.news_of_block (heap_alloc_new w1.drew _)) (by simp [Value.oneCell']) (by omega) (by unfold maxLen; omega) (by omega) (by have := hbel.size; simp at hgs ⊢; omega) _ rfl ?_; intro g2 cap2 w2 hown2 hgrow2 _ _))
        all_goals
          have hend := text_more h0 hbel hown hown1 hgrow1 hown2 hgrow2
          clear hown hown1 hgrow1 hown2 hgrow2 hbel I1 I2 A15 hgs
          go_wp2
          go_roundw
          case rel => exact ⟨k + 1, by omega, by go_num, hend.1, hend.2⟩
          case measure => simp [intOf]; omega
      · obtain rfl : k = 0 := by omega
        go_wp2_with (go_at_call 24; refine (byteAt_any _ _ _ (by omega)).mono ?_; rintro e w' ⟨rfl, rfl⟩)
        have hown0' : wr.ownsRow w.heap.size 5 1 u3 0 [] := hown
        go_region_held3 (fun _ => True) (trivial) ((refine step_append_lies _ (by rfl) (.tmp 18) (.tmp 25) 34 (by rfl) w.heap.size 5 i0 (.int .u8 0) 1 1 Try.underlying34 Hi.out Hz0.out Hz1.out Hz2.out rfl (by decide) _ _ _ (by rfl) (hown0'.drew.alloc _) ⟨wr.heap.size, 0, none⟩ 2 2 [.int .u8 (hx (byt m 0 / 16)), .int .u8 (hx (byt m 0 % 16))] (by rfl) (by rfl) (World.news_of_block (heap_alloc_new wr.drew _)) (by simp [Value.oneCell']) (by omega) (by unfold maxLen; omega) (by omega) (by have := hbel.size; simp; omega) _ rfl ?_; intro g2 cap2 w2 hown2 hgrow2 _ _))
        all_goals
          have hend := text_first hbel hown0' hown2 hgrow2
          clear hown hown0' hown2 hgrow2 hbel I1 I2 A15
          go_wp2
          go_roundw
          case rel => exact ⟨1, by omega, by go_num, hend.1, hend.2⟩
          case measure => simp [intOf]
    · obtain rfl : k = 6 := by omega
      have hconv := run_string_own wr _ _ _ hown
      go_wp2
      go_ret
      exact ⟨rfl, hbel⟩
end Go.Proofs.Ytiafhjjnihpaaaa
