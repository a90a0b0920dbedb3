/- Addresses of 48 bits: the contracts of reading and of kinds (stage 1's). -/
import Derived.Test.YtagbfklcbekceaaGreatDoorRows
import Derived.WalkKit
import Derived.ProofKit
import Derived.Lib.Hide
import Derived.Deep.AppendLies
import Derived.Deep.RegionLaw
import Derived.Deep.RegionHeld3
import Derived.ShutString
import Derived.StillTailTactics
import Derived.Deep.QuietTactic
import Derived.BigQuiet
import Derived.Lib.Bytealg
import Derived.Deep.DeepFit
/- Contracts of the small number functions of packages mac and palingref01 (Host, Group, IsHost, byteAt). -/
namespace Go.Proofs.YtagbfklcbekceaaGreatDoor.Mac
open Go.RowKit

theorem host_or (a : Int) (h0 : 0 ≤ a) (h1 : a < 4294967296) : bits .or .u64 2199023255552 a = 2199023255552 + a := by
  rw [u64_or _ _ (by omega) (by omega) h0 (by omega)]
  have : (2199023255552 : Int).toNat ||| a.toNat = 2199023255552 + a.toNat := by
    have := Nat.two_pow_add_eq_or_of_lt (i := 41) (b := a.toNat) (by omega) 1
    simpa using this.symm
  rw [this]; omega

theorem mask_48 (m : Int) (h0 : 0 ≤ m) (h1 : m < 18446744073709551616) : bits .and .u64 m 281474976710655 = m % 281474976710656 := by
  rw [u64_and _ _ h0 h1 (by omega) (by omega)]
  have : m.toNat &&& (281474976710655 : Int).toNat = m.toNat % 281474976710656 := Nat.and_two_pow_sub_one_eq_mod m.toNat 48
  rw [this]; omega

theorem bit_40 (m : Nat) : m &&& 1099511627776 = (m / 1099511627776 % 2) * 1099511627776 := by
  apply Nat.eq_of_testBit_eq
  intro i
  rw [Nat.testBit_and, show (1099511627776 : Nat) = 2 ^ 40 from rfl, Nat.testBit_two_pow, Nat.testBit_mul_two_pow]
  by_cases hi : 40 = i
  · subst hi
    rw [Nat.testBit_eq_decide_div_mod_eq]
    simp
  · rcases Nat.lt_or_ge i 40 with h | h
    · simp [hi]; omega
    · have : (m / 2 ^ 40 % 2).testBit (i - 40) = false := Nat.testBit_lt_two_pow (Nat.lt_of_lt_of_le (Nat.mod_lt _ (by decide)) (Nat.pow_le_pow_right (by decide : 0 < 2) (by omega : 1 ≤ i - 40)))
      simp [hi, this]

/-- an address's byte i, the highest first -/
def byt (m : Int) (i : Nat) : Int := m / 256 ^ (5 - i) % 256
theorem byt_lo (m : Int) (i : Nat) : 0 ≤ byt m i := by unfold byt; exact Int.emod_nonneg _ (by decide)
theorem byt_hi (m : Int) (i : Nat) : byt m i < 256 := by unfold byt; exact Int.emod_lt_of_pos _ (by decide)
/-- is the lowest bit of the highest byte 1? -/
def grp (m : Int) : Bool := decide (m / 1099511627776 % 2 = 1)

theorem group_and (m : Int) (h0 : 0 ≤ m) (h1 : m < 18446744073709551616) : (bits .and .u64 m 1099511627776 != 0) = grp m := by
  rw [u64_and _ _ h0 h1 (by omega) (by omega)]
  obtain ⟨n, rfl⟩ := Int.eq_ofNat_of_zero_le h0
  have := bit_40 n
  simp only [Int.toNat_natCast, show (1099511627776 : Int).toNat = 1099511627776 from rfl, this]
  unfold grp
  rw [Bool.eq_iff_iff]; simp; omega

theorem host_any (a : Int) (w : World) (h0 : 0 ≤ a) (h1 : a < 4294967296) :
    Calls Tryz.prog 121 #[.int .u32 a] w fun e w' => e = .returned (.int .u64 (2199023255552 + a)) ∧ w = w' := by
  have h := host_or a h0 h1
  go_enter Tryz.func121, Tryz.ntmps121
  go_wp2
  go_ret
  exact ⟨by simp, rfl⟩

theorem group_any (m : Int) (w : World) (h0 : 0 ≤ m) (h1 : m < 18446744073709551616) :
    Calls Tryz.prog 103 #[.int .u64 m] w fun e w' => e = .returned (.bool (grp m)) ∧ w = w' := by
  have h := group_and m h0 h1
  go_enter Tryz.func103, Tryz.ntmps103
  go_wp2
  go_ret
  exact ⟨by simp, rfl⟩

/-- the ip of a host's address, and whether it is one -/
def isHostB (m : Int) : Bool := decide (2199023255552 + m % 4294967296 = m % 281474976710656)
theorem isHost_any (m : Int) (w : World) (h0 : 0 ≤ m) (h1 : m < 18446744073709551616) :
    Calls Tryz.prog 102 #[.int .u64 m] w fun e w' => e = .returned (.tuple #[.int .u32 (if isHostB m = true then m % 4294967296 else 0), .bool (isHostB m)]) ∧ w = w' := by
  have h := mask_48 m h0 h1
  by_cases hh : isHostB m = true
  · have hd : ((2199023255552 + m % 4294967296) != (m % 281474976710656)) = false := by
      unfold isHostB at hh; simp at hh; simp [hh]
    rw [hh]
    have hx : Hid (isHostB m = true) := Lib.hid hh
    clear hh
    go_enter Tryz.func102, Tryz.ntmps102
    go_wp2_with (go_at_call 121; refine (host_any _ _ (by omega) (by omega)).mono ?_; rintro e w' ⟨rfl, rfl⟩)
    go_ret2
    exact ⟨by simp, rfl⟩
  · have hd : ((2199023255552 + m % 4294967296) != (m % 281474976710656)) = true := by
      unfold isHostB at hh; simp at hh; simp [hh]
    have h2 : isHostB m = false := by simpa using hh
    rw [h2]
    clear hh h2
    go_enter Tryz.func102, Tryz.ntmps102
    go_wp2_with (go_at_call 121; refine (host_any _ _ (by omega) (by omega)).mono ?_; rintro e w' ⟨rfl, rfl⟩)
    go_ret2
    exact ⟨by simp, rfl⟩

theorem byteAt_any (m : Int) (k : Nat) (w : World) (hk : k < 6) :
    Calls Tryz.prog 43 #[.int .u64 m, .int .i64 (k : Int)] w fun e w' => e = .returned (.int .u8 (byt m k)) ∧ w = w' := by
  have key : ∀ (j : Nat), j < 6 → Calls Tryz.prog 43 #[.int .u64 m, .int .i64 (j : Int)] w fun e w' => e = .returned (.int .u8 (byt m j)) ∧ w = w' := by
    intro j hj
    match j, hj with
    | 0, _ | 1, _ | 2, _ | 3, _ | 4, _ | 5, _ =>
      go_enter Tryz.func43, Tryz.ntmps43
      go_wp2
      go_ret
      exact ⟨by simp [byt], rfl⟩
  exact key k hk
end Go.Proofs.YtagbfklcbekceaaGreatDoor.Mac

/- The contract of mac.Text: which text it writes. -/
namespace Go.Proofs.YtagbfklcbekceaaGreatDoor.Mac
open Go.RowKit

theorem Tryz.info5 : (Tryz.prog.info? 5).map (fun i => (i.zero, i.size, i.bytes)) = some (some (.int .u8 0), 1, 1) := by kernel_rfl

/-- the digit of a number below 16 -/
def hx (d : Int) : Int := if d < 10 then 48 + d else 87 + d
/-- the first i bytes' text -/
def textPre (m : Int) : Nat → List Int
  | 0 => []
  | k + 1 => textPre m k ++ (if 0 < k then [58] else []) ++ [hx (byt m k / 16), hx (byt m k % 16)]
def strOf (ns : List Int) : ByteArray := ⟨(ns.map fun n => UInt8.ofNat n.toNat).toArray⟩
theorem foldl_push (ns : List Int) : ∀ r : ByteArray, ns.foldl (fun r n => r.push (UInt8.ofNat n.toNat)) r = ⟨r.data ++ (ns.map fun n => UInt8.ofNat n.toNat).toArray⟩ := by
  induction ns with
  | nil => intro r; simp
  | cons n ns ih =>
    intro r
    rw [List.foldl_cons, ih]
    show ByteArray.mk (r.data.push _ ++ _) = _
    congr 1
    apply Array.ext'
    simp
abbrev digs : ByteArray := ⟨#[48, 49, 50, 51, 52, 53, 54, 55, 56, 57, 97, 98, 99, 100, 101, 102]⟩

theorem index_dig (d : Int) (h0 : 0 ≤ d) (h1 : d < 16) (w : World) : (Instr.index 9 (.string digs) (.int .u8 d)).run Tryz.prog w = .ok (.int .u8 (hx d)) w := by
  have : d = 0 ∨ d = 1 ∨ d = 2 ∨ d = 3 ∨ d = 4 ∨ d = 5 ∨ d = 6 ∨ d = 7 ∨ d = 8 ∨ d = 9 ∨ d = 10 ∨ d = 11 ∨ d = 12 ∨ d = 13 ∨ d = 14 ∨ d = 15 := by omega
  rcases this with rfl | rfl | rfl | rfl | rfl | rfl | rfl | rfl | rfl | rfl | rfl | rfl | rfl | rfl | rfl | rfl <;> (show Sem.run _ _ _ = Result.ok _ _; kernel_rfl)

theorem and_15 (a : Int) (h0 : 0 ≤ a) (h1 : a < 256) : bits .and .u8 a 15 = a % 16 := by
  rw [u8_and _ _ h0 h1 (by omega) (by omega)]
  have : a.toNat &&& (15 : Int).toNat = a.toNat % 16 := Nat.and_two_pow_sub_one_eq_mod a.toNat 4
  rw [this]; omega

theorem textPre_len (m : Int) (k : Nat) : (textPre m k).length ≤ 3 * k := by
  induction k with
  | zero => simp [textPre]
  | succ k ih => simp only [textPre, List.length_append]; split <;> simp <;> omega

/-- the text that owned bytes are turned into -/
theorem run_string_own (w : World) (B : Nat) (v : Value) (ns : List Int) (hown : w.ownsRow B 5 1 v ns.length (ns.map (Value.int .u8))) :
    (convert 22 9 v).run Tryz.prog w = .ok (.string (strOf ns)) w := by
  rcases hown.2 with ⟨rfl, hn⟩ | ⟨g, cap, cur, rfl, _, _, _⟩
  · have : ns = [] := List.eq_nil_of_length_eq_zero hn
    subst this
    rw [run_convert_bytes_string w _ _ _ _ _ _ Tryz.underlying22 Tryz.underlying5 Tryz.underlying9]
    show Sem.run _ _ _ = Result.ok _ _
    kernel_rfl
  · rw [run_convert_bytes_string w _ _ _ _ _ _ Tryz.underlying22 Tryz.underlying5 Tryz.underlying9]
    have hl := run_loadCells_list (P := Tryz.prog) (w := w) ⟨g, 0, none⟩ (ns.map (Value.int .u8)) (hown.cells rfl)
    rw [List.length_map] at hl
    rw [run_bytesToString w _ _ _ ns hl, foldl_push]
    simp [strOf, ByteArray.empty, ByteArray.emptyWithCapacity]
    rfl

theorem below_app {a w w' : World} {e : TypeId} {s n : Nat} {v : Value} {xs : List Value} (h : Below a.heap.size a w) (ho : w.ownsRow a.heap.size e s v n xs) (hg : w.grownBy w' v.ownBlock) : Below a.heap.size a w' :=
  h.grown hg h.size (fun k hk => (ho.lt k hk).1)

theorem text_more {a wr w1 w2 : World} {m : Int} {k g cap g2 cap2 : Nat} {u3 : Value} {o1 o2 : Obj} (h0 : 0 < k) (hbel : Below a.heap.size a wr)
    (hown : wr.ownsRow a.heap.size 5 1 u3 (textPre m k).length ((textPre m k).map (Value.int .u8)))
    (hown1 : w1.ownsRow a.heap.size 5 1 (.slice (some ⟨g, 0, none⟩) ((textPre m k).length + 1) cap) ((textPre m k).length + 1) ((textPre m k).map (Value.int .u8) ++ [.int .u8 58]))
    (hg1 : (wr.alloc o1).grownBy w1 u3.ownBlock)
    (hown2 : w2.ownsRow a.heap.size 5 1 (.slice (some ⟨g2, 0, none⟩) ((textPre m k).length + 1 + 2) cap2) ((textPre m k).length + 1 + 2) ((textPre m k).map (Value.int .u8) ++ [.int .u8 58] ++ [.int .u8 (hx (byt m k / 16)), .int .u8 (hx (byt m k % 16))]))
    (hg2 : ((w1.alloc o2).drew).grownBy w2 (Value.slice (some ⟨g, 0, none⟩) ((textPre m k).length + 1) cap).ownBlock) :
    w2.ownsRow a.heap.size 5 1 (.slice (some ⟨g2, 0, none⟩) ((textPre m k).length + 1 + 2) cap2) (textPre m (k + 1)).length ((textPre m (k + 1)).map (Value.int .u8)) ∧ Below a.heap.size a w2 := by
  have b1 := below_app (hbel.alloc hbel.size o1) (hown.alloc o1) hg1
  have b2 := below_app ((b1.alloc b1.size o2).drew) ((hown1.alloc o2).drew) hg2
  refine ⟨?_, b2⟩
  have e : textPre m (k + 1) = textPre m k ++ [58] ++ [hx (byt m k / 16), hx (byt m k % 16)] := by simp [textPre, h0]
  rw [e]
  simpa using hown2

theorem text_first {a wr w2 : World} {m : Int} {g2 cap2 : Nat} {u3 : Value} {o2 : Obj} (hbel : Below a.heap.size a wr)
    (hown : wr.ownsRow a.heap.size 5 1 u3 0 [])
    (hown2 : w2.ownsRow a.heap.size 5 1 (.slice (some ⟨g2, 0, none⟩) 2 cap2) 2 ([] ++ [.int .u8 (hx (byt m 0 / 16)), .int .u8 (hx (byt m 0 % 16))]))
    (hg2 : ((wr.alloc o2).drew).grownBy w2 u3.ownBlock) :
    w2.ownsRow a.heap.size 5 1 (.slice (some ⟨g2, 0, none⟩) 2 cap2) (textPre m 1).length ((textPre m 1).map (Value.int .u8)) ∧ Below a.heap.size a w2 := by
  have b2 := below_app ((hbel.alloc hbel.size o2).drew) ((hown.alloc o2).drew) hg2
  exact ⟨by simpa [textPre] using hown2, b2⟩

set_option maxHeartbeats 800000 in
set_option maxRecDepth 20000 in
theorem text_any (m : Int) (w : World) :
    Calls Tryz.prog 22 #[.int .u64 m] w fun e w' => e = .returned (.string (strOf (textPre m 6))) ∧ Below w.heap.size w w' := by
  obtain ⟨i0, hi, hz0, hz1, hz2⟩ := info_parts Tryz.info5
  have Hi := Lib.hid hi; have Hz0 := Lib.hid hz0; have Hz1 := Lib.hid hz1; have Hz2 := Lib.hid hz2
  clear hi hz0 hz1 hz2
  go_enter Tryz.func22, Tryz.ntmps22
  go_wp2_with (at_make; refine wpList_make_own _ rfl _ _ 22 rfl w.heap.size 5 i0 (.int .u8 0) 1 Tryz.underlying22 Hi.out Hz0.out Hz1.out .i64 .i64 _ 17 rfl rfl rfl (by rw [Hz2.out]; omega) (by unfold maxLen; omega) (Nat.le_refl _) ?_; intro w0 hown0 hgrow0)
  go_loopw [3, 7] (fun v i wr => ∃ k : Nat, k ≤ 6 ∧ i = .int .i64 k ∧ wr.ownsRow w.heap.size 5 1 v (textPre m k).length ((textPre m k).map (Value.int .u8)) ∧ Below w.heap.size w wr) (fun _ i _ => 6 - (intOf i).toNat)
  case atStart => exact ⟨0, by omega, rfl, hown0, (Below.refl _ _).grown hgrow0 (Nat.le_refl _) (fun _ h => by cases h)⟩
  case round =>
    obtain ⟨k, hk, rfl, hown, hbel⟩ := hrel
    have hlen := textPre_len m k
    by_cases hlt : k < 6
    · have b0 := byt_lo m k
      have b1 := byt_hi m k
      have A15 := and_15 (byt m k) b0 b1
      have I1 := index_dig (byt m k / 16) (by omega) (by omega)
      have I2 := index_dig (byt m k % 16) (by omega) (by omega)
      by_cases h0 : 0 < k
      · go_wp2_with (first
          | (at_builtin
             refine wpList_append_lies _ rfl (.tmp 12) (.tmp 13) 22 rfl w.heap.size 5 i0 (.int .u8 0) 1 1 Tryz.underlying22 Hi.out Hz0.out Hz1.out Hz2.out rfl (by decide) _ _ _ (by rfl) (hown.alloc _) ⟨wr.heap.size, 0, none⟩ 1 1 [.int .u8 58] rfl rfl (World.news_of_block (heap_alloc_new wr _)) (by simp [Value.oneCell']) (by omega) (by unfold maxLen; omega) (by omega) (by have := hbel.size; simp; omega) _ rfl ?_
             intro g cap w1 hown1 hgrow1 _ _)
          | (go_at_call 43; refine (byteAt_any _ _ _ (by omega)).mono ?_; rintro e w' ⟨rfl, rfl⟩))
        have hgs := hgrow1.size
        go_region_held3 (fun _ => True) (trivial) ((refine step_append_lies _ (by rfl) (.tmp 18) (.tmp 25) 22 (by rfl) w.heap.size 5 i0 (.int .u8 0) 1 1 Tryz.underlying22 Hi.out Hz0.out Hz1.out Hz2.out rfl (by decide) _ _ _ (by rfl) (hown1.drew.alloc _) ⟨w1.heap.size, 0, none⟩ 2 2 [.int .u8 (hx (byt m k / 16)), .int .u8 (hx (byt m k % 16))] (by rfl) (by rfl) (World.news_of_block (heap_alloc_new w1.drew _)) (by simp [Value.oneCell']) (by omega) (by unfold maxLen; omega) (by omega) (by have := hbel.size; simp at hgs ⊢; omega) _ rfl ?_; intro g2 cap2 w2 hown2 hgrow2 _ _))
        all_goals
          have hend := text_more h0 hbel hown hown1 hgrow1 hown2 hgrow2
          clear hown hown1 hgrow1 hown2 hgrow2 hbel I1 I2 A15 hgs
          go_wp2
          go_roundw
          case rel => exact ⟨k + 1, by omega, by go_num, hend.1, hend.2⟩
          case measure => simp [intOf]; omega
      · obtain rfl : k = 0 := by omega
        go_wp2_with (go_at_call 43; refine (byteAt_any _ _ _ (by omega)).mono ?_; rintro e w' ⟨rfl, rfl⟩)
        have hown0' : wr.ownsRow w.heap.size 5 1 u3 0 [] := hown
        go_region_held3 (fun _ => True) (trivial) ((refine step_append_lies _ (by rfl) (.tmp 18) (.tmp 25) 22 (by rfl) w.heap.size 5 i0 (.int .u8 0) 1 1 Tryz.underlying22 Hi.out Hz0.out Hz1.out Hz2.out rfl (by decide) _ _ _ (by rfl) (hown0'.drew.alloc _) ⟨wr.heap.size, 0, none⟩ 2 2 [.int .u8 (hx (byt m 0 / 16)), .int .u8 (hx (byt m 0 % 16))] (by rfl) (by rfl) (World.news_of_block (heap_alloc_new wr.drew _)) (by simp [Value.oneCell']) (by omega) (by unfold maxLen; omega) (by omega) (by have := hbel.size; simp; omega) _ rfl ?_; intro g2 cap2 w2 hown2 hgrow2 _ _))
        all_goals
          have hend := text_first hbel hown0' hown2 hgrow2
          clear hown hown0' hown2 hgrow2 hbel I1 I2 A15
          go_wp2
          go_roundw
          case rel => exact ⟨1, by omega, by go_num, hend.1, hend.2⟩
          case measure => simp [intOf]
    · obtain rfl : k = 6 := by omega
      have hconv := run_string_own wr _ _ _ hown
      go_wp2
      go_ret
      exact ⟨rfl, hbel⟩
end Go.Proofs.YtagbfklcbekceaaGreatDoor.Mac

/- The contract of palingref01.Bytes: an address's six bytes, in new memory. -/
namespace Go.Proofs.YtagbfklcbekceaaGreatDoor.Mac
open Go.RowKit

/-- an address's first r bytes -/
def bytesPre (m : Int) : Nat → List Int
  | 0 => []
  | r + 1 => bytesPre m r ++ [byt m r]
theorem bytesPre_len (m : Int) (r : Nat) : (bytesPre m r).length = r := by
  induction r with
  | zero => rfl
  | succ r ih => simp [bytesPre, ih]

theorem div_more (m : Int) (k : Nat) : m / 256 ^ k / 256 = m / 256 ^ (k + 1) := by
  rw [Int.pow_succ, Int.ediv_ediv_of_nonneg (by exact Int.le_of_lt (Int.pow_pos (by decide)))]

theorem quo_u64 (x c : Int) (h0 : 0 ≤ x) (h1 : x < 18446744073709551616) (hc : 1 ≤ c) : IntKind.u64.wrap (x.tdiv c) = x / c := by
  rw [Int.tdiv_eq_ediv_of_nonneg h0]
  have h2 : 0 ≤ x / c := Int.ediv_nonneg h0 (by omega)
  have h3 : x / c ≤ x := Int.ediv_le_self c h0
  simp only [IntKind.wrap, IntKind.bits, IntKind.signed]
  have : x / c % 2 ^ 64 = x / c := Int.emod_eq_of_lt h2 (by omega)
  simpa using this

theorem pow_div_le (m : Int) (k : Nat) (h0 : 0 ≤ m) : 0 ≤ m / 256 ^ k ∧ m / 256 ^ k ≤ m :=
  ⟨Int.ediv_nonneg h0 (Int.le_of_lt (Int.pow_pos (by decide))), Int.ediv_le_self _ h0⟩

theorem bytes_more {a wr w1 : World} {m : Int} {r g cap : Nat} {u3 : Value} {o1 : Obj} (hbel : Below a.heap.size a wr)
    (hown : wr.ownsRow a.heap.size 5 1 u3 r ((bytesPre m r).map (Value.int .u8)))
    (hown1 : w1.ownsRow a.heap.size 5 1 (.slice (some ⟨g, 0, none⟩) (r + 1) cap) (r + 1) ((bytesPre m r).map (Value.int .u8) ++ [.int .u8 (byt m r)]))
    (hg1 : (wr.alloc o1).grownBy w1 u3.ownBlock) :
    w1.ownsRow a.heap.size 5 1 (.slice (some ⟨g, 0, none⟩) (r + 1) cap) (r + 1) ((bytesPre m (r + 1)).map (Value.int .u8)) ∧ Below a.heap.size a w1 := by
  have b1 := below_app (hbel.alloc hbel.size o1) (hown.alloc o1) hg1
  exact ⟨by simpa [bytesPre] using hown1, b1⟩

theorem bytesPre_get (m : Int) (r j : Nat) (h : j < r) : (bytesPre m r)[j]? = some (byt m j) := by
  induction r with
  | zero => omega
  | succ r ih =>
    rw [bytesPre, List.getElem?_append, bytesPre_len]
    split
    · exact ih (by assumption)
    · obtain rfl : j = r := by omega
      simp

theorem grp_byt (m : Int) : (byt m 0 % 2 == 1) = grp m := by
  unfold byt grp
  rw [Bool.eq_iff_iff]; simp

/-- the number of bytes, the highest first -/
def numOf (f : Nat → Int) : Nat → Int
  | 0 => 0
  | k + 1 => numOf f k * 256 + f k
theorem numOf_bd (f : Nat → Int) (n : Nat) (h : ∀ j, j < n → 0 ≤ f j ∧ f j < 256) : 0 ≤ numOf f n ∧ numOf f n < 256 ^ n := by
  induction n with
  | zero => simp [numOf]
  | succ n ih =>
    obtain ⟨i0, i1⟩ := ih (fun j hj => h j (by omega))
    obtain ⟨g0, g1⟩ := h n (by omega)
    have e : (256 : Int) ^ (n + 1) = 256 ^ n * 256 := Int.pow_succ ..
    simp only [numOf]
    rw [e]
    omega
theorem pow_le_40 (k : Nat) (h : k < 6) : (256 : Int) ^ k ≤ 1099511627776 := by
  have : ∀ i : Fin 6, (256 : Int) ^ i.val ≤ 1099511627776 := by decide
  exact this ⟨k, h⟩

theorem isHost_byt (m : Int) : isHostB m = true ↔ byt m 0 = 2 ∧ byt m 1 = 0 := by
  unfold isHostB byt
  simp
  omega
theorem num_low (m : Int) : numOf (fun j => byt m (2 + j)) 4 = m % 4294967296 := by
  simp only [numOf, byt]
  simp
  omega

end Go.Proofs.YtagbfklcbekceaaGreatDoor.Mac

/- The contract of palingref01.Text: it writes the text that mac.Text writes. -/
namespace Go.Proofs.YtagbfklcbekceaaGreatDoor.Mac
open Go.RowKit

theorem slice_dig (d : Int) (h0 : 0 ≤ d) (h1 : d < 16) (w : World) : (Instr.sliceAt 9 (.string digs) (some (.int .u8 d)) (some (.int .u8 (d + 1))) none).run Tryz.prog w = .ok (.string (strOf [hx d])) w := by
  have : d = 0 ∨ d = 1 ∨ d = 2 ∨ d = 3 ∨ d = 4 ∨ d = 5 ∨ d = 6 ∨ d = 7 ∨ d = 8 ∨ d = 9 ∨ d = 10 ∨ d = 11 ∨ d = 12 ∨ d = 13 ∨ d = 14 ∨ d = 15 := by omega
  rcases this with rfl | rfl | rfl | rfl | rfl | rfl | rfl | rfl | rfl | rfl | rfl | rfl | rfl | rfl | rfl | rfl <;> (show Sem.run _ _ _ = Result.ok _ _; kernel_rfl)

theorem strOf_append (a b : List Int) : strOf (a ++ b) = strOf a ++ strOf b := by
  unfold strOf
  rw [List.map_append, ByteArray.mk_append_mk]
theorem strOf_size (a : List Int) : (strOf a).size = a.length := by simp [strOf, ByteArray.size]
abbrev colonS : ByteArray := ⟨#[58]⟩
theorem colonS_of : colonS = strOf [58] := by decide +kernel

theorem below_drewN {B : Nat} {a w : World} (h : Below B a w) (n : Nat) : Below B a (w.drewN n) := ⟨h.os, h.tape, h.output, h.size, h.block⟩
theorem text_next (m : Int) (k : Nat) (h : 0 < k) : strOf (textPre m (k + 1)) = strOf (textPre m k) ++ ⟨#[58]⟩ ++ strOf [hx (byt m k / 16)] ++ strOf [hx (byt m k % 16)] := by
  rw [show (⟨#[58]⟩ : ByteArray) = strOf [58] from colonS_of, ← strOf_append, ← strOf_append, ← strOf_append]
  simp [textPre, h]
theorem text_next0 (m : Int) (k : Nat) (h : ¬ 0 < k) : strOf (textPre m (k + 1)) = strOf (textPre m k) ++ strOf [hx (byt m k / 16)] ++ strOf [hx (byt m k % 16)] := by
  rw [← strOf_append, ← strOf_append]
  simp [textPre, h]

end Go.Proofs.YtagbfklcbekceaaGreatDoor.Mac

/- The contract of mac.Read: which address a text is, or that it is none. -/
namespace Go.Proofs.YtagbfklcbekceaaGreatDoor.Mac
open Go.RowKit

/-- the number of a digit, or -1 -/
def dg (c : Int) : Int := if 48 ≤ c ∧ c ≤ 57 then c - 48 else if 97 ≤ c ∧ c ≤ 102 then c - 87 else -1
theorem dg_of (n : Nat) (h : n < 256) : Lib.indexByte digs.data.toList ((n : Int).toNat.toUInt8) = dg n := by
  have key : ∀ i : Fin 256, Lib.indexByte digs.data.toList (((i.val : Nat) : Int).toNat.toUInt8) = dg (i.val : Nat) := by decide +kernel
  exact key ⟨n, h⟩
theorem dg_lt (c : Int) : dg c < 16 := by unfold dg; split <;> (try split) <;> omega
theorem dg_ge (c : Int) : -1 ≤ dg c := by unfold dg; split <;> (try split) <;> omega

set_option maxRecDepth 20000 in
theorem indexByte_lite (c : Int) (w : World) (h0 : 0 ≤ c) (h1 : c < 256) :
    Calls Tryz.prog 117 #[.string digs, .int .u8 c] w fun e w' => e = .returned (.int .i64 (dg c)) ∧ w = w' := by
  obtain ⟨n, rfl⟩ := Int.eq_ofNat_of_zero_le h0
  have hd := Lib.hid (dg_of n (by omega))
  go_enter Tryz.func117, Tryz.ntmps117
  go_wp2
  rw [run_callFunc_extern Tryz.func134 (by kernel_rfl) (by kernel_rfl) (by kernel_rfl) (e := Extern.BytealgIndexByte.indexByte) (by kernel_rfl), Lib.run_indexByteString]
  simp only [Result.andThen]
  rw [Oper.upon_value]
  go_wp2
  go_ret
  exact ⟨by rw [← hd.out]; rfl, rfl⟩

theorem indexByte_any (c : Int) (w : World) (h0 : 0 ≤ c) (h1 : c < 256) :
    Calls Tryz.prog 92 #[.string digs, .int .u8 c] w fun e w' => e = .returned (.int .i64 (dg c)) ∧ w = w' := by
  go_enter Tryz.func92, Tryz.ntmps92
  go_wp2_with (go_at_call 117; refine (indexByte_lite _ _ h0 h1).mono ?_; rintro e w' ⟨rfl, rfl⟩)
  go_ret
  exact ⟨rfl, rfl⟩

/-- the byte at j -/
def sb (s : ByteArray) (j : Nat) : Int := ((s.data.toList.getD j 0).toNat : Int)
theorem sb_lo (s : ByteArray) (j : Nat) : 0 ≤ sb s j := by unfold sb; omega
theorem sb_hi (s : ByteArray) (j : Nat) : sb s j < 256 := by unfold sb; have := (s.data.toList.getD j 0).toNat_lt; omega
/-- is the address's byte j written as it should be? -/
def good (s : ByteArray) (j : Nat) : Prop := 0 ≤ dg (sb s (3 * j)) ∧ 0 ≤ dg (sb s (3 * j + 1)) ∧ (0 < j → sb s (3 * j - 1) = 58)
instance (s : ByteArray) (j : Nat) : Decidable (good s j) := by unfold good; infer_instance
/-- the number of the first k bytes -/
def val (s : ByteArray) : Nat → Int
  | 0 => 0
  | k + 1 => val s k * 256 + (dg (sb s (3 * k)) * 16 + dg (sb s (3 * k + 1)))
def rdB (s : ByteArray) : Bool := decide (s.size = 17) && (List.range 6).all fun j => decide (good s j)
theorem rdB_iff (s : ByteArray) : rdB s = true ↔ s.size = 17 ∧ ∀ j, j < 6 → good s j := by simp [rdB]
def rdV (s : ByteArray) : Int := if rdB s = true then val s 6 else 0
theorem val_bd (s : ByteArray) (k : Nat) (h : ∀ j, j < k → good s j) : 0 ≤ val s k ∧ val s k < 256 ^ k := by
  induction k with
  | zero => simp [val]
  | succ k ih =>
    obtain ⟨i0, i1⟩ := ih (fun j hj => h j (by omega))
    obtain ⟨g0, g1, _⟩ := h k (by omega)
    have := dg_lt (sb s (3 * k)); have := dg_lt (sb s (3 * k + 1))
    have e : (256 : Int) ^ (k + 1) = 256 ^ k * 256 := Int.pow_succ ..
    simp only [val]
    rw [e]
    omega
theorem run_index_sb (s : ByteArray) (j : Nat) (i : Int) (hi : i = (j : Int)) (hj : j < s.size) (w : World) : (Instr.index 9 (.string s) (.int .i64 i)).run Tryz.prog w = .ok (.int .u8 (sb s j)) w := by
  subst hi
  have h1 : ((j : Int)) < (s.size : Int) := by omega
  go_simp
  simp [sb, List.getD, List.getElem?_eq_getElem (show j < s.data.toList.length by simpa using hj)]
  rfl

theorem or_i64 (a b : Int) (h0 : 0 ≤ a) (h1 : a < 16) (h2 : 0 ≤ b) (h3 : b < 16) : bits .or .i64 (a * 16) b = a * 16 + b := by
  have k : ∀ i j : Fin 16, bits .or .i64 (((i.val : Nat) : Int) * 16) ((j.val : Nat) : Int) = ((i.val : Nat) : Int) * 16 + ((j.val : Nat) : Int) := by decide +kernel
  obtain ⟨A, rfl⟩ := Int.eq_ofNat_of_zero_le h0
  obtain ⟨B, rfl⟩ := Int.eq_ofNat_of_zero_le h2
  exact k ⟨A, by omega⟩ ⟨B, by omega⟩
theorem or_u64 (a b : Int) (h0 : 0 ≤ a) (h1 : a < 1099511627776) (h2 : 0 ≤ b) (h3 : b < 256) : bits .or .u64 (a * 256) b = a * 256 + b := by
  obtain ⟨A, rfl⟩ := Int.eq_ofNat_of_zero_le h0
  obtain ⟨B, rfl⟩ := Int.eq_ofNat_of_zero_le h2
  have e := u64_or_nat (A * 256) B (by omega) (by omega)
  have : A * 256 ||| B = A * 256 + B := by
    have := Nat.two_pow_add_eq_or_of_lt (i := 8) (b := B) (by omega) A
    rw [Nat.mul_comm] at this
    exact this.symm
  rw [this] at e
  rw [show (A : Int) * 256 = ((A * 256 : Nat) : Int) by omega, e]
  omega

set_option maxRecDepth 100000 in
theorem read_short (s : ByteArray) (w : World) (h : s.size ≠ 17) :
    Calls Tryz.prog 72 #[.string s] w fun e w' => e = .returned (.tuple #[.int .u64 0, .bool false]) ∧ w = w' := by
  have h' : ((s.size : Int) != 17) = true := by simp; omega
  clear h
  go_enter Tryz.func72, Tryz.ntmps72
  go_wp2
  go_ret2
  exact ⟨rfl, rfl⟩
theorem not_good {s : ByteArray} {k : Nat} (hk : k < 6) (h : ¬ good s k) : rdB s = false ∧ rdV s = 0 := by
  have hb : rdB s = false := by
    rcases hx : rdB s with _ | _
    · rfl
    · exact absurd (((rdB_iff s).1 hx).2 k hk) h
  exact ⟨hb, by simp [rdV, hb]⟩

set_option maxRecDepth 100000 in
set_option maxHeartbeats 1000000 in
theorem read_17 (s : ByteArray) (w : World) (hs : s.size = 17) :
    Calls Tryz.prog 72 #[.string s] w fun e w' => e = .returned (.tuple #[.int .u64 (rdV s), .bool (rdB s)]) ∧ w = w' := by
  have h' : ((s.size : Int) != 17) = false := by simp; omega
  have Hs := Lib.hid hs
  clear hs
  go_enter Tryz.func72, Tryz.ntmps72
  go_wp2
  go_loop [4, 12] (fun v i => ∃ k : Nat, k ≤ 6 ∧ i = .int .i64 k ∧ v = .int .u64 (val s k) ∧ ∀ j, j < k → good s j) (fun _ i => 6 - (intOf i).toNat)
  case atStart => exact ⟨0, by omega, rfl, rfl, fun j h => by omega⟩
  case round =>
    obtain ⟨k, hk, rfl, rfl, hgood⟩ := hrel
    have hsz := Hs.out
    by_cases hlt : k < 6
    · have x0 := run_index_sb s (3 * k) (k * 3) (by omega) (by omega)
      have x1 := run_index_sb s (3 * k + 1) (k * 3 + 1) (by omega) (by omega)
      have l0 := sb_lo s (3 * k)
      have l1 := sb_hi s (3 * k)
      have m0 := sb_lo s (3 * k + 1)
      have m1 := sb_hi s (3 * k + 1)
      have bd := val_bd s k hgood
      clear hsz
      by_cases g0 : dg (sb s (3 * k)) < 0
      · have HE := Lib.hid (not_good (s := s) hlt (fun hg => by have := hg.1; omega))
        clear bd
        go_wp2_with (go_at_call 92; (first | (with_reducible refine (indexByte_any (sb s (3 * k)) _ l0 l1).mono ?_) | (with_reducible refine (indexByte_any (sb s (3 * k + 1)) _ m0 m1).mono ?_)); rintro e w' ⟨rfl, rfl⟩)
        all_goals
          go_ret2
          exact ⟨by rw [HE.out.1, HE.out.2]; rfl, rfl⟩
      · by_cases g1 : dg (sb s (3 * k + 1)) < 0
        · have HE := Lib.hid (not_good (s := s) hlt (fun hg => by have := hg.2.1; omega))
          clear bd
          go_wp2_with (go_at_call 92; (first | (with_reducible refine (indexByte_any (sb s (3 * k)) _ l0 l1).mono ?_) | (with_reducible refine (indexByte_any (sb s (3 * k + 1)) _ m0 m1).mono ?_)); rintro e w' ⟨rfl, rfl⟩)
          all_goals
            go_ret2
            exact ⟨by rw [HE.out.1, HE.out.2]; rfl, rfl⟩
        · have d0 := dg_lt (sb s (3 * k))
          have d1 := dg_lt (sb s (3 * k + 1))
          have p40 : (256 : Int) ^ k ≤ 1099511627776 := by
            have : ∀ i : Fin 6, (256 : Int) ^ i.val ≤ 1099511627776 := by decide
            exact this ⟨k, hlt⟩
          have o1 := or_i64 (dg (sb s (3 * k))) (dg (sb s (3 * k + 1))) (by omega) d0 (by omega) d1
          have o2 := or_u64 (val s k) (dg (sb s (3 * k)) * 16 + dg (sb s (3 * k + 1))) bd.1 (by omega) (by omega) (by omega)
          obtain ⟨v0, v1⟩ := bd
          have v2 : val s k < 1099511627776 := by omega
          clear v1 p40
          by_cases k0 : 0 < k
          · have x2 := run_index_sb s (3 * k - 1) (k * 3 - 1) (by omega) (by have := Hs.out; omega)
            by_cases g2 : sb s (3 * k - 1) = 58
            · have HG := Lib.hid (show good s k from ⟨by omega, by omega, fun _ => g2⟩)
              have c2 : (sb s (3 * k - 1) != 58) = false := by simp [g2]
              clear g2
              go_wp2_with (go_at_call 92; (first | (with_reducible refine (indexByte_any (sb s (3 * k)) _ l0 l1).mono ?_) | (with_reducible refine (indexByte_any (sb s (3 * k + 1)) _ m0 m1).mono ?_)); rintro e w' ⟨rfl, rfl⟩)
              all_goals
                go_round
                case rel => exact ⟨k + 1, by omega, by go_num, rfl, fun j hj => by
                  rcases Nat.lt_or_ge j k with h | h
                  · exact hgood j h
                  · obtain rfl : j = k := by omega
                    exact HG.out⟩
                case measure => simp [intOf]; omega
            · have HE := Lib.hid (not_good (s := s) hlt (fun hg => g2 (hg.2.2 k0)))
              have c2 : (sb s (3 * k - 1) != 58) = true := by simp [g2]
              clear g2
              go_wp2_with (go_at_call 92; (first | (with_reducible refine (indexByte_any (sb s (3 * k)) _ l0 l1).mono ?_) | (with_reducible refine (indexByte_any (sb s (3 * k + 1)) _ m0 m1).mono ?_)); rintro e w' ⟨rfl, rfl⟩)
              all_goals
                go_ret2
                exact ⟨by rw [HE.out.1, HE.out.2]; rfl, rfl⟩
          · have HG := Lib.hid (show good s k from ⟨by omega, by omega, fun h => absurd h k0⟩)
            go_wp2_with (go_at_call 92; (first | (with_reducible refine (indexByte_any (sb s (3 * k)) _ l0 l1).mono ?_) | (with_reducible refine (indexByte_any (sb s (3 * k + 1)) _ m0 m1).mono ?_)); rintro e w' ⟨rfl, rfl⟩)
            all_goals
              go_round
              case rel => exact ⟨k + 1, by omega, by go_num, rfl, fun j hj => by
                rcases Nat.lt_or_ge j k with h | h
                · exact hgood j h
                · obtain rfl : j = k := by omega
                  exact HG.out⟩
              case measure => simp [intOf]; omega
    · obtain rfl : k = 6 := by omega
      have HB := Lib.hid (show rdB s = true ∧ rdV s = val s 6 from by
        have hb : rdB s = true := (rdB_iff s).2 ⟨hsz, hgood⟩
        exact ⟨hb, by simp [rdV, hb]⟩)
      clear hsz
      go_wp2
      go_ret2
      exact ⟨by rw [HB.out.1, HB.out.2]; rfl, rfl⟩

theorem read_any (s : ByteArray) (w : World) :
    Calls Tryz.prog 72 #[.string s] w fun e w' => e = .returned (.tuple #[.int .u64 (rdV s), .bool (rdB s)]) ∧ w = w' := by
  by_cases hs : s.size = 17
  · exact read_17 s w hs
  · have hb : rdB s = false := by simp [rdB, hs]
    have hv : rdV s = 0 := by simp [rdV, hb]
    rw [hb, hv]
    exact read_short s w hs
end Go.Proofs.YtagbfklcbekceaaGreatDoor.Mac

/- Plain facts on texts of addresses: what is read is what was written. -/
namespace Go.Proofs.YtagbfklcbekceaaGreatDoor.Mac

theorem textPre_six (m : Int) : textPre m 6 = [hx (byt m 0 / 16), hx (byt m 0 % 16), 58, hx (byt m 1 / 16), hx (byt m 1 % 16), 58, hx (byt m 2 / 16), hx (byt m 2 % 16), 58,
    hx (byt m 3 / 16), hx (byt m 3 % 16), 58, hx (byt m 4 / 16), hx (byt m 4 % 16), 58, hx (byt m 5 / 16), hx (byt m 5 % 16)] := by simp [textPre]
theorem hx_dg (c : Int) (h : 0 ≤ dg c) : hx (dg c) = c := by
  by_cases a : 48 ≤ c ∧ c ≤ 57
  · have e : dg c = c - 48 := by simp [dg, a]
    rw [e]
    unfold hx
    rw [if_pos (by omega)]
    omega
  · by_cases b : 97 ≤ c ∧ c ≤ 102
    · have e : dg c = c - 87 := by unfold dg; rw [if_neg a, if_pos b]
      rw [e]
      unfold hx
      rw [if_neg (by omega)]
      omega
    · have e : dg c = -1 := by unfold dg; rw [if_neg a, if_neg b]
      omega
theorem dg_hx (d : Int) (h0 : 0 ≤ d) (h1 : d < 16) : dg (hx d) = d := by
  have : d = 0 ∨ d = 1 ∨ d = 2 ∨ d = 3 ∨ d = 4 ∨ d = 5 ∨ d = 6 ∨ d = 7 ∨ d = 8 ∨ d = 9 ∨ d = 10 ∨ d = 11 ∨ d = 12 ∨ d = 13 ∨ d = 14 ∨ d = 15 := by omega
  rcases this with rfl | rfl | rfl | rfl | rfl | rfl | rfl | rfl | rfl | rfl | rfl | rfl | rfl | rfl | rfl | rfl <;> decide
theorem hx_bd (d : Int) (h0 : 0 ≤ d) (h1 : d < 16) : 0 ≤ hx d ∧ hx d < 256 := by unfold hx; split <;> omega
theorem sb_strOf (l : List Int) (j : Nat) (hl : ∀ x ∈ l, 0 ≤ x ∧ x < 256) (hj : j < l.length) : sb (strOf l) j = l.getD j 0 := by
  unfold sb strOf
  have h1 := hl l[j] (List.getElem_mem hj)
  simp [List.getD, hj]
  omega
theorem textPre_bd (m : Int) : ∀ x ∈ textPre m 6, 0 ≤ x ∧ x < 256 := by
  have a := fun k => hx_bd (byt m k / 16) (by have := byt_lo m k; omega) (by have := byt_hi m k; omega)
  have b := fun k => hx_bd (byt m k % 16) (by have := byt_lo m k; omega) (by have := byt_hi m k; omega)
  rw [textPre_six]
  simp only [List.forall_mem_cons]
  exact ⟨a 0, b 0, by decide, a 1, b 1, by decide, a 2, b 2, by decide, a 3, b 3, by decide, a 4, b 4, by decide, a 5, b 5, by simp⟩
theorem textPre_17 (m : Int) : (textPre m 6).length = 17 := by rw [textPre_six]; rfl

/-- what is written is well written -/
theorem rdB_text (m : Int) : rdB (strOf (textPre m 6)) = true := by
  rw [rdB_iff]
  refine ⟨by rw [strOf_size, textPre_17], fun j hj => ?_⟩
  have hd := fun k : Nat => dg_hx (byt m k / 16) (by have := byt_lo m k; omega) (by have := byt_hi m k; omega)
  have hm := fun k : Nat => dg_hx (byt m k % 16) (by have := byt_lo m k; omega) (by have := byt_hi m k; omega)
  have hn0 := fun k : Nat => byt_lo m k
  have get := fun i (hi : i < 17) => sb_strOf (textPre m 6) i (textPre_bd m) (by rw [textPre_17]; exact hi)
  unfold good
  rw [get (3 * j) (by omega), get (3 * j + 1) (by omega), get (3 * j - 1) (by omega), textPre_six]
  have a := hn0 j
  have h1 := hd j
  have h2 := hm j
  match j, hj with
  | 0, _ | 1, _ | 2, _ | 3, _ | 4, _ | 5, _ =>
    simp [h1, h2] at *
    first | omega | (constructor <;> omega)
theorem strOf_sb (s : ByteArray) (n : Nat) (hs : s.size = n) : strOf ((List.range n).map (sb s)) = s := by
  have hl : s.data.toList.length = n := by simpa using hs
  have e : ((List.range n).map (sb s)).map (fun n => UInt8.ofNat n.toNat) = s.data.toList := by
    apply List.ext_getElem
    · simp [hl]
    · intro i h1 h2
      simp [sb, List.getD, List.getElem?_eq_getElem h2]
  unfold strOf
  rw [e]

theorem val_six (s : ByteArray) : val s 6 = (((((dg (sb s 0) * 16 + dg (sb s 1)) * 256 + (dg (sb s 3) * 16 + dg (sb s 4))) * 256 + (dg (sb s 6) * 16 + dg (sb s 7))) * 256 + (dg (sb s 9) * 16 + dg (sb s 10))) * 256 + (dg (sb s 12) * 16 + dg (sb s 13))) * 256 + (dg (sb s 15) * 16 + dg (sb s 16)) := by
  simp [val]

/-- what is well written is the text of its number -/
theorem text_val (s : ByteArray) (h : rdB s = true) : strOf (textPre (val s 6) 6) = s := by
  obtain ⟨hs, hg⟩ := (rdB_iff s).1 h
  obtain ⟨a0, b0, _⟩ := hg 0 (by omega)
  obtain ⟨a1, b1, c1⟩ := hg 1 (by omega)
  obtain ⟨a2, b2, c2⟩ := hg 2 (by omega)
  obtain ⟨a3, b3, c3⟩ := hg 3 (by omega)
  obtain ⟨a4, b4, c4⟩ := hg 4 (by omega)
  obtain ⟨a5, b5, c5⟩ := hg 5 (by omega)
  have c1 := c1 (by omega); have c2 := c2 (by omega); have c3 := c3 (by omega); have c4 := c4 (by omega); have c5 := c5 (by omega)
  simp only [Nat.mul_zero, Nat.zero_add, Nat.reduceMul, Nat.reduceAdd, Nat.reduceSub] at a0 b0 a1 b1 c1 a2 b2 c2 a3 b3 c3 a4 b4 c4 a5 b5 c5
  have L := fun j => dg_lt (sb s j)
  have hv := val_six s
  have l0 := L 0; have l1 := L 1; have l3 := L 3; have l4 := L 4; have l6 := L 6; have l7 := L 7
  have l9 := L 9; have l10 := L 10; have l12 := L 12; have l13 := L 13; have l15 := L 15; have l16 := L 16
  have y0 : byt (val s 6) 0 = dg (sb s 0) * 16 + dg (sb s 1) := by unfold byt; simp only [Nat.reduceSub, Int.reducePow]; omega
  have y1 : byt (val s 6) 1 = dg (sb s 3) * 16 + dg (sb s 4) := by unfold byt; simp only [Nat.reduceSub, Int.reducePow]; omega
  have y2 : byt (val s 6) 2 = dg (sb s 6) * 16 + dg (sb s 7) := by unfold byt; simp only [Nat.reduceSub, Int.reducePow]; omega
  have y3 : byt (val s 6) 3 = dg (sb s 9) * 16 + dg (sb s 10) := by unfold byt; simp only [Nat.reduceSub, Int.reducePow]; omega
  have y4 : byt (val s 6) 4 = dg (sb s 12) * 16 + dg (sb s 13) := by unfold byt; simp only [Nat.reduceSub, Int.reducePow]; omega
  have y5 : byt (val s 6) 5 = dg (sb s 15) * 16 + dg (sb s 16) := by unfold byt; simp only [Nat.reduceSub, Int.reducePow]; omega
  clear hv
  have q : ∀ a b : Int, 0 ≤ a → 0 ≤ b → b < 16 → (a * 16 + b) / 16 = a ∧ (a * 16 + b) % 16 = b := fun a b _ _ _ => by omega
  rw [textPre_six, y0, y1, y2, y3, y4, y5, (q _ _ a0 b0 l1).1, (q _ _ a0 b0 l1).2, (q _ _ a1 b1 l4).1, (q _ _ a1 b1 l4).2, (q _ _ a2 b2 l7).1, (q _ _ a2 b2 l7).2,
    (q _ _ a3 b3 l10).1, (q _ _ a3 b3 l10).2, (q _ _ a4 b4 l13).1, (q _ _ a4 b4 l13).2, (q _ _ a5 b5 l16).1, (q _ _ a5 b5 l16).2,
    hx_dg _ a0, hx_dg _ b0, hx_dg _ a1, hx_dg _ b1, hx_dg _ a2, hx_dg _ b2, hx_dg _ a3, hx_dg _ b3, hx_dg _ a4, hx_dg _ b4, hx_dg _ a5, hx_dg _ b5]
  have e := strOf_sb s 17 hs
  rw [show (List.range 17).map (sb s) = [sb s 0, sb s 1, sb s 2, sb s 3, sb s 4, sb s 5, sb s 6, sb s 7, sb s 8, sb s 9, sb s 10, sb s 11, sb s 12, sb s 13, sb s 14, sb s 15, sb s 16] from rfl, c1, c2, c3, c4, c5] at e
  exact e

/-- the number of a digit, or 0 -/
def dd (c : Int) : Int := if 48 ≤ c ∧ c ≤ 57 then c - 48 else if 97 ≤ c ∧ c ≤ 102 then c - 87 else 0
theorem dd_bd (c : Int) : 0 ≤ dd c ∧ dd c < 16 := by unfold dd; split <;> (try split) <;> omega
theorem dd_dg (c : Int) (h : 0 ≤ dg c) : dd c = dg c := by
  by_cases a : 48 ≤ c ∧ c ≤ 57
  · simp [dd, dg, a]
  · by_cases b : 97 ≤ c ∧ c ≤ 102
    · unfold dd dg; rw [if_neg a, if_neg a, if_pos b, if_pos b]
    · have e : dg c = -1 := by unfold dg; rw [if_neg a, if_neg b]
      omega
/-- the number of the first i bytes' digits -/
def nn (s : ByteArray) : Nat → Int
  | 0 => 0
  | i + 1 => if i % 3 = 2 then nn s i else nn s i * 16 + dd (sb s i)
theorem nn_bd (s : ByteArray) (i : Nat) : 0 ≤ nn s i ∧ nn s i < 16 ^ (i - i / 3) := by
  induction i with
  | zero => simp [nn]
  | succ i ih =>
    obtain ⟨i0, i1⟩ := ih
    obtain ⟨d0, d1⟩ := dd_bd (sb s i)
    simp only [nn]
    by_cases h : i % 3 = 2
    · rw [if_pos h, show i + 1 - (i + 1) / 3 = i - i / 3 by omega]
      exact ⟨i0, i1⟩
    · rw [if_neg h, show i + 1 - (i + 1) / 3 = (i - i / 3) + 1 by omega, Int.pow_succ]
      omega
theorem nn_val (s : ByteArray) (h : rdB s = true) : nn s 17 = val s 6 := by
  obtain ⟨hs, hg⟩ := (rdB_iff s).1 h
  obtain ⟨a0, b0, _⟩ := hg 0 (by omega)
  obtain ⟨a1, b1, _⟩ := hg 1 (by omega)
  obtain ⟨a2, b2, _⟩ := hg 2 (by omega)
  obtain ⟨a3, b3, _⟩ := hg 3 (by omega)
  obtain ⟨a4, b4, _⟩ := hg 4 (by omega)
  obtain ⟨a5, b5, _⟩ := hg 5 (by omega)
  simp only [Nat.mul_zero, Nat.zero_add, Nat.reduceMul, Nat.reduceAdd] at a0 b0 a1 b1 a2 b2 a3 b3 a4 b4 a5 b5
  rw [val_six]
  simp only [nn, Nat.reduceMod, if_true, reduceIte, Nat.reduceEqDiff]
  simp only [dd_dg _ a0, dd_dg _ b0, dd_dg _ a1, dd_dg _ b1, dd_dg _ a2, dd_dg _ b2, dd_dg _ a3, dd_dg _ b3, dd_dg _ a4, dd_dg _ b4, dd_dg _ a5, dd_dg _ b5]
  omega
end Go.Proofs.YtagbfklcbekceaaGreatDoor.Mac

/- The contract of palingref01.Read: it answers what mac.Read answers. -/
namespace Go.Proofs.YtagbfklcbekceaaGreatDoor.Mac
open Go.RowKit

theorem bytes_ne (a b : ByteArray) (h : a ≠ b) : (a.toList == b.toList) = false := by
  rcases hx : (a.toList == b.toList) with _ | _
  · rfl
  · exfalso
    have e : a.toList = b.toList := by simpa using hx
    rw [ByteArray.toList_eq, ByteArray.toList_eq] at e
    apply h
    cases a
    cases b
    exact congrArg ByteArray.mk (Array.ext' e)

theorem nn_some (s : ByteArray) (i : Nat) (h : i % 3 ≠ 2) (d : Int) (hd : dd (sb s i) = d) : nn s (i + 1) = nn s i * 16 + d := by
  simp [nn, h, hd]
theorem nn_none (s : ByteArray) (i : Nat) (h : i % 3 = 2) : nn s (i + 1) = nn s i := by
  simp [nn, h]

end Go.Proofs.YtagbfklcbekceaaGreatDoor.Mac
