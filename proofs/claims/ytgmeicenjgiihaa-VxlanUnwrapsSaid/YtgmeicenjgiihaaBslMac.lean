/- The contracts of mac's and palingref01's Take, Put and Bytes over lists of bytes. -/
import Derived.Test.YtgmeicenjgiihaaMacBy
import Derived.Test.YtgmeicenjgiihaaBsl
namespace Go.Proofs.Ytgmeicenjgiihaa
open Go.RowKit
open Go.Lib (byteCells)

/-- an address's six bytes -/
def mb (m : Int) : List UInt8 := (bytesPre m 6).map u8
theorem bytesPre_bd (m : Int) (k : Nat) : ∀ x ∈ bytesPre m k, 0 ≤ x ∧ x < 256 := by
  induction k with
  | zero => intro x hx; cases hx
  | succ k ih =>
    intro x hx
    simp only [bytesPre, List.mem_append, List.mem_singleton] at hx
    rcases hx with hx | rfl
    · exact ih x hx
    · exact ⟨byt_lo m k, byt_hi m k⟩
theorem nums_mb (m : Int) : nums (mb m) = bytesPre m 6 := nums_u8 _ (bytesPre_bd m 6)
theorem mb_len (m : Int) : (mb m).length = 6 := by unfold mb; rw [List.length_map, bytesPre_len]
theorem bcells_mb (m : Int) : byteCells (mb m) = (bytesPre m 6).map (Value.int .u8) := by rw [byteCells_nums, nums_mb]
theorem bat_mb (m : Int) (j : Nat) (h : j < 6) : bat (mb m) j = byt m j := by
  have h2 := bytesPre_get m 6 j h
  have h3 := nums_getD (mb m) j (by rw [mb_len]; exact h)
  rw [← h3, nums_mb]
  simp [List.getD, h2]
theorem put_more {a wr w1 : World} {m : Int} {n k : Nat} {bs : List Int} {u v : Value} {o1 : Obj} (hbel : Below a.heap.size a wr)
    (hown : wr.ownsRow a.heap.size 5 1 u (n + k) ((bs ++ bytesPre m k).map (Value.int .u8)))
    (hown1 : w1.ownsRow a.heap.size 5 1 v (n + k + 1) ((bs ++ bytesPre m k).map (Value.int .u8) ++ [.int .u8 (byt m k)]))
    (hg1 : (wr.alloc o1).grownBy w1 u.ownBlock) :
    w1.ownsRow a.heap.size 5 1 v (n + (k + 1)) ((bs ++ bytesPre m (k + 1)).map (Value.int .u8)) ∧ Below a.heap.size a w1 := by
  have b1 := below_app (hbel.alloc hbel.size o1) (hown.alloc o1) hg1
  exact ⟨by simpa [bytesPre, Nat.add_assoc] using hown1, b1⟩

set_option maxRecDepth 20000 in
set_option maxHeartbeats 800000 in
theorem mput_any (A : Option Addr) (n c : Nat) (l : List UInt8) (m : Int) (w : World) (hn : n ≤ 1000000) (hsrc : BSl w A n c l) :
    Calls Try.prog 42 #[.slice A n c, .int .u64 m] w fun e w' => ∃ v, e = .returned v ∧ w'.ownsRow w.heap.size 5 1 v (n + 6) (byteCells (l ++ mb m)) ∧ Below w.heap.size w w' := by
  obtain ⟨i0, hi, hz0, hz1, hz2⟩ := info_parts Try.info5
  have Hi := Lib.hid hi; have Hz0 := Lib.hid hz0; have Hz1 := Lib.hid hz1; have Hz2 := Lib.hid hz2
  have Hs := Lib.hid hsrc
  have HE := Lib.hid (show byteCells (l ++ mb m) = (nums l ++ bytesPre m 6).map (Value.int .u8) by rw [byteCells_nums, nums_app, nums_mb])
  clear hi hz0 hz1 hz2 hsrc
  go_enter Try.func42, Try.ntmps42
  go_wp2_with (first
    | (at_make; refine wpList_make_own _ rfl _ _ 22 rfl w.heap.size 5 i0 (.int .u8 0) 1 Try.underlying22 Hi.out Hz0.out Hz1.out .i64 .i64 _ (n + 6) rfl rfl (by omega) (by rw [Hz2.out]; omega) (by unfold maxLen; omega) (Nat.le_refl _) ?_; intro w0 hown0 hgrow0; have hb0 : Below w.heap.size w w0 := (Below.refl _ _).grown hgrow0 (Nat.le_refl _) (fun _ h => by cases h))
    | (at_builtin; refine wpList_bapp rfl (.tmp 10) (.tmp 11) 22 rfl w.heap.size 5 i0 (.int .u8 0) 1 Try.underlying22 Hi.out Hz0.out Hz1.out Hz2.out rfl _ _ _ (by rfl) hown0 A n c l (by rfl) (Hs.out.below hb0) (by unfold maxLen; omega) (by omega) hb0.size ?_; intro v1 w1 hown1 hgrow1; have hb1 := below_app hb0 hown0 hgrow1))
  have hown1' : w1.ownsRow w.heap.size 5 1 v1 (n + 0) ((nums l ++ bytesPre m 0).map (Value.int .u8)) := by simpa [bytesPre, byteCells_nums] using hown1
  clear hown1 hgrow1 hown0 hgrow0 hb0
  go_loopw [5, 13] (fun v i wr => ∃ k : Nat, k ≤ 6 ∧ i = .int .i64 k ∧ wr.ownsRow w.heap.size 5 1 v (n + k) ((nums l ++ bytesPre m k).map (Value.int .u8)) ∧ Below w.heap.size w wr) (fun _ i _ => 6 - (intOf i).toNat)
  case atStart => exact ⟨0, by omega, rfl, hown1', hb1⟩
  case round =>
    clear hown1' hb1
    obtain ⟨k, hk, rfl, hown, hbel⟩ := hrel
    by_cases hlt : k < 6
    · go_wp2_with (first
        | (go_at_call 57; refine (byteAt_any _ _ _ hlt).mono ?_; rintro e w' ⟨rfl, rfl⟩)
        | (at_builtin; refine wpList_append_lies _ rfl (.tmp 16) (.tmp 20) 22 rfl w.heap.size 5 i0 (.int .u8 0) 1 1 Try.underlying22 Hi.out Hz0.out Hz1.out Hz2.out rfl (by decide) _ _ _ (by rfl) (hown.alloc _) ⟨wr.heap.size, 0, none⟩ 1 1 [.int .u8 (byt m k)] (by rfl) rfl (World.news_of_block (heap_alloc_new wr _)) (by simp [Value.oneCell']) (by omega) (by unfold maxLen; omega) (by omega) (by have := hbel.size; simp; omega) _ rfl ?_; intro g cap w2 hown2 hgrow2 _ _))
      have hend := put_more hbel hown hown2 hgrow2
      clear hbel hown hown2 hgrow2
      go_wp2
      go_roundw
      case rel => exact ⟨k + 1, by omega, by go_num, hend.1, hend.2⟩
      case measure => simp [intOf]; omega
    · obtain rfl : k = 6 := by omega
      go_wp2
      go_ret
      exact ⟨_, rfl, by rw [HE.out]; exact hown, hbel⟩
/-- the six bytes of palingref01.Bytes, as bytes -/
theorem refBytes_mb (m : Int) (w : World) (h0 : 0 ≤ m) (h1 : m < 18446744073709551616) :
    Calls Try.prog 48 #[.int .u64 m] w fun e w' => ∃ v, e = .returned v ∧ w'.ownsRow w.heap.size 5 1 v 6 (byteCells (mb m)) ∧ Below w.heap.size w w' := by
  rw [bcells_mb]
  exact refBytes_any m w h0 h1
/-- what six bytes of a list are as an address -/
def mbAt (l : List UInt8) (i : Nat) : Int := numOf (fun j => bat l (i + j)) 6
theorem mtake_any (A : Option Addr) (n c at_ : Nat) (l : List UInt8) (w : World) (h : BSl w A n c l) (ha : at_ + 6 ≤ n) :
    Calls Try.prog 40 #[.slice A n c, .int .i64 (at_ : Int)] w fun e w' => e = .returned (.tuple #[.int .u64 (mbAt l at_), .bool true]) ∧ w = w' := by
  obtain ⟨b, off, rfl, _, hc⟩ := h.at_ (by omega)
  exact take_yes b off n c at_ _ w h.le h.cap ha (fun j _ => ⟨bat_lo _ _, bat_hi _ _⟩) (fun j hj => hc (at_ + j) (by omega))
theorem refMtake_any (A : Option Addr) (n c at_ : Nat) (l : List UInt8) (w : World) (h : BSl w A n c l) (ha : at_ + 6 ≤ n) :
    Calls Try.prog 54 #[.slice A n c, .int .i64 (at_ : Int)] w fun e w' => e = .returned (.tuple #[.int .u64 (mbAt l at_), .bool true]) ∧ w = w' := by
  obtain ⟨b, off, rfl, _, hc⟩ := h.at_ (by omega)
  exact refTake_yes b off n c at_ _ w h.le h.cap ha (fun j _ => ⟨bat_lo _ _, bat_hi _ _⟩) (fun j hj => hc (at_ + j) (by omega))
theorem mtake_of (A : Option Addr) (n c at_ : Nat) (i : Int) (l : List UInt8) (w : World) (hi : i = (at_ : Int)) (h : BSl w A n c l) (ha : at_ + 6 ≤ n) :
    Calls Try.prog 40 #[.slice A n c, .int .i64 i] w fun e w' => e = .returned (.tuple #[.int .u64 (mbAt l at_), .bool true]) ∧ w = w' := by
  subst hi
  exact mtake_any A n c at_ l w h ha
theorem refMtake_of (A : Option Addr) (n c at_ : Nat) (i : Int) (l : List UInt8) (w : World) (hi : i = (at_ : Int)) (h : BSl w A n c l) (ha : at_ + 6 ≤ n) :
    Calls Try.prog 54 #[.slice A n c, .int .i64 i] w fun e w' => e = .returned (.tuple #[.int .u64 (mbAt l at_), .bool true]) ∧ w = w' := by
  subst hi
  exact refMtake_any A n c at_ l w h ha
end Go.Proofs.Ytgmeicenjgiihaa
