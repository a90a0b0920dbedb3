/- The contracts of addr.Text and palingref02.Text. The contracts of a strings.Builder's copyCheck and WriteString, of the call's own builder. The contracts of num.ListText, num.AddrsText, palingref03.ListText, palingref03.AddrsText: lists as texts. The contracts of both PrefixTexts. -/
import Derived.Test.YtagbfklcbekceaaGreatDoorCode3
import Derived.Test.YtagbfklcbekceaaGreatDoorBase
import Derived.Test.YtagbfklcbekceaaGreatDoorShelf
import Derived.Test.YtagbfklcbekceaaGreatDoorRef3
import Derived.Deep.RegionHeldLaw
namespace Go.Proofs.YtagbfklcbekceaaGreatDoor
open Go.RowKit
open Go.Lib (decDigits byteCells)

theorem div_cast (a c : Nat) : ((a / c : Nat) : Int) = (a : Int) / (c : Int) := Int.natCast_ediv a c
theorem txt_parts (a : Nat) : txt a = decDigits (a / 16777216) ++ [46] ++ decDigits (a / 65536 % 256) ++ [46] ++ decDigits (a / 256 % 256) ++ [46] ++ decDigits (a % 256) := by
  unfold txt; simp
theorem dec3 (n : Nat) (h : n < 1000) : (decDigits n).length ≤ 3 := dec_len 3 (by omega) h
/-- byte k of an address, the highest first -/
def abyte (a k : Nat) : Nat := a / 256 ^ (3 - k) % 256
def txtPre (a : Nat) : Nat → List UInt8
  | 0 => []
  | k + 1 => txtPre a k ++ (if 0 < k then [46] else []) ++ decDigits (abyte a k)
theorem txtPre_four (a : Nat) (h : a < 4294967296) : txtPre a 4 = txt a := by
  have e0 : abyte a 0 = a / 16777216 := by unfold abyte; simp only [Nat.reduceSub, Nat.reducePow]; omega
  have e1 : abyte a 1 = a / 65536 % 256 := by unfold abyte; simp only [Nat.reduceSub, Nat.reducePow]
  have e2 : abyte a 2 = a / 256 % 256 := by unfold abyte; simp only [Nat.reduceSub, Nat.reducePow]
  have e3 : abyte a 3 = a % 256 := by unfold abyte; simp only [Nat.reduceSub, Nat.reducePow]; omega
  rw [txt_parts]
  simp [txtPre, e0, e1, e2, e3]
theorem abyte_lt (a k : Nat) : abyte a k < 256 := Nat.mod_lt _ (by decide)
theorem txtPre_len (a k : Nat) : (txtPre a k).length ≤ 4 * k := by
  induction k with
  | zero => simp [txtPre]
  | succ k ih =>
    have := dec3 (abyte a k) (by have := abyte_lt a k; omega)
    simp only [txtPre, List.length_append]
    split <;> simp <;> omega
abbrev pow10 : String := "internal/strconv.uint64pow10"
theorem appendUint_any (B n u : Nat) (hu : u < 18446744073709551616) (sv : Value) (xs : List Value) (w : World) (hown : w.ownsRow B 5 1 sv n xs) (hBw : B ≤ w.heap.size) (hlim : n + 20 ≤ 140737488355328) (htab : Lib.TabIs Tryz.prog w pow10 .u64 Lib.pow10Tab) :
    Calls Tryz.prog 45 #[sv, .int .u64 (u : Int), .int .i64 10] w fun e w' => ∃ v', e = .returned v' ∧ w'.ownsRow B 5 1 v' (n + (decDigits u).length) (xs ++ byteCells (decDigits u)) ∧ Below B w w' := by
  by_cases h : u < 100
  · go_enter Tryz.func45, Tryz.ntmps45
    go_wp2_with (go_at_call 86; refine (Tryz.internal_strconv_AppendUint_10_small B n u h sv xs w hown hBw hlim).mono ?_; rintro e w1 ⟨v, rfl, h1, h2, _⟩)
    go_ret
    exact ⟨v, rfl, h1, h2⟩
  · go_enter Tryz.func45, Tryz.ntmps45
    go_wp2_with (go_at_call 86; refine (Tryz.internal_strconv_AppendUint_10_big B n u (by omega) hu sv xs w hown hBw hlim htab).mono ?_; rintro e w1 ⟨v, rfl, h1, h2, _⟩)
    go_ret
    exact ⟨v, rfl, h1, h2⟩

theorem appendUint_of (x : Int) (B n u : Nat) (hx : x = (u : Int)) (hu : u < 18446744073709551616) (sv : Value) (xs : List Value) (w : World) (hown : w.ownsRow B 5 1 sv n xs) (hBw : B ≤ w.heap.size) (hlim : n + 20 ≤ 140737488355328) (htab : Lib.TabIs Tryz.prog w pow10 .u64 Lib.pow10Tab) :
    Calls Tryz.prog 45 #[sv, .int .u64 x, .int .i64 10] w fun e w' => ∃ v', e = .returned v' ∧ w'.ownsRow B 5 1 v' (n + (decDigits u).length) (xs ++ byteCells (decDigits u)) ∧ Below B w w' := by
  subst hx
  exact appendUint_any B n u hu sv xs w hown hBw hlim htab
theorem strCells_eq (l : List UInt8) : Lib.strCells (str l) = byteCells l := rfl
theorem byteCells_app (a b : List UInt8) : byteCells (a ++ b) = byteCells a ++ byteCells b := by simp [Lib.byteCells]

set_option maxRecDepth 100000 in
set_option maxHeartbeats 1000000 in
theorem text_any (a : Nat) (ha : a < 4294967296) (w : World) (htab : Lib.TabIs Tryz.prog w pow10 .u64 Lib.pow10Tab) :
    Calls Tryz.prog 24 #[.int .u32 (a : Int)] w fun e w' => e = .returned (.string (str (txt a))) ∧ Below w.heap.size w w' := by
  have HT := Lib.hid htab
  have T4 := Lib.hid (txtPre_four a ha)
  clear htab
  obtain ⟨i0, hi, hz0, hz1, hz2⟩ := info_parts Tryz.info5
  have Hi := Lib.hid hi; have Hz0 := Lib.hid hz0; have Hz1 := Lib.hid hz1; have Hz2 := Lib.hid hz2
  clear hi hz0 hz1 hz2
  go_enter Tryz.func24, Tryz.ntmps24
  go_wp2_with (at_make; refine wpList_make_own _ rfl _ _ 22 rfl w.heap.size 5 i0 (.int .u8 0) 1 Tryz.underlying22 Hi.out Hz0.out Hz1.out .i64 .i64 _ 15 rfl rfl rfl (by rw [Hz2.out]; omega) (by unfold maxLen; omega) (Nat.le_refl _) ?_; intro w0 hown0 hgrow0)
  go_loopw [3, 6] (fun v i wr => ∃ k : Nat, k ≤ 4 ∧ i = .int .i64 k ∧ wr.ownsRow w.heap.size 5 1 v (txtPre a k).length (byteCells (txtPre a k)) ∧ Below w.heap.size w wr) (fun _ i _ => 4 - (intOf i).toNat)
  case atStart => exact ⟨0, by omega, rfl, hown0, (Below.refl _ _).grown hgrow0 (Nat.le_refl _) (fun _ h => by cases h)⟩
  case round =>
    obtain ⟨k, hk, rfl, hown, hb⟩ := hrel
    have hlen := txtPre_len a k
    by_cases hlt : k < 4
    · have hu := abyte_lt a k
      have hsh := Lib.hid (show (a : Int) / 2 ^ (8 * (3 - k)) % 256 = ((abyte a k : Nat) : Int) by
        unfold abyte
        rw [Int.pow_mul]
        simp)
      by_cases h0 : 0 < k
      · have g1 : (txtPre a k).length + (⟨#[46]⟩ : ByteArray).size ≤ maxLen := by unfold maxLen; simp [ByteArray.size]; omega
        have g2 : (txtPre a k).length + (⟨#[46]⟩ : ByteArray).size ≤ 140737488355328 := by simp [ByteArray.size]; omega
        have G1 := Lib.hid g1
        have G2 := Lib.hid g2
        clear g1 g2
        have H0 := Lib.hid h0
        go_wp2_with (first
          | (at_builtin; refine Lib.wpList_append_own_string _ rfl (.tmp 11) (.const (.string ⟨#[46]⟩)) 22 9 rfl w.heap.size 5 i0 Tryz.underlying22 Tryz.underlying9 Hi.out Hz0.out Hz1.out Hz2.out _ _ _ rfl hown ⟨#[46]⟩ rfl G1.out G2.out hb.size ?_; intro v1 w1 hown1 hgrow1 _; have hb1 := below_app hb hown hgrow1)
          | (go_at_call 45; refine (appendUint_of _ _ _ _ hsh.out (by omega) _ _ _ hown1 hb1.size (by have := G2.out; simp [ByteArray.size] at this ⊢; omega) (tab_below HT.out hb1)).mono ?_; rintro e w2 ⟨v2, rfl, hown2, hb2⟩))
        have hend : w2.ownsRow w.heap.size 5 1 v2 (txtPre a (k + 1)).length (byteCells (txtPre a (k + 1))) ∧ Below w.heap.size w w2 := by
          refine ⟨?_, hb1.trans hb2⟩
          have e : txtPre a (k + 1) = txtPre a k ++ [46] ++ decDigits (abyte a k) := by simp [txtPre, H0.out]
          rw [e, byteCells_app, byteCells_app, List.length_append, List.length_append]
          exact hown2
        clear hown hown1 hown2 hgrow1 hb hb1 hb2
        go_roundw
        case rel => exact ⟨k + 1, by omega, by go_num, hend.1, hend.2⟩
        case measure => simp [intOf]; omega
      · have H0 := Lib.hid h0
        go_wp2_with (go_at_call 45; refine (appendUint_of _ _ _ _ hsh.out (by omega) _ _ _ hown hb.size (by omega) (tab_below HT.out hb)).mono ?_; rintro e w2 ⟨v2, rfl, hown2, hb2⟩)
        have hend : w2.ownsRow w.heap.size 5 1 v2 (txtPre a (k + 1)).length (byteCells (txtPre a (k + 1))) ∧ Below w.heap.size w w2 := by
          refine ⟨?_, hb.trans hb2⟩
          have e : txtPre a (k + 1) = txtPre a k ++ decDigits (abyte a k) := by simp [txtPre, H0.out]
          rw [e, byteCells_app, List.length_append]
          exact hown2
        clear hown hown2 hb hb2
        go_roundw
        case rel => exact ⟨k + 1, by omega, by go_num, hend.1, hend.2⟩
        case measure => simp [intOf]; omega
    · obtain rfl : k = 4 := by omega
      have hconv := run_string_bytes wr _ _ _ hown
      have T := T4
      go_wp2
      go_ret
      exact ⟨by rw [← T.out]; rfl, hb⟩
end Go.Proofs.YtagbfklcbekceaaGreatDoor

namespace Go.Proofs.YtagbfklcbekceaaGreatDoor
open Go.RowKit

theorem Tryz.info93 : (Tryz.prog.info? 93).map (fun i => (i.zero, i.size, i.bytes)) = some (some (.agg #[.pointer none, .slice none 0 0]), 2, 32) := by kernel_rfl
theorem builder_lies : liesAt Tryz.prog Tryz.prog.depth 93 (2 / Tryz.prog.cellsOf 93) 0 93 1 = true := by kernel_rfl

set_option maxHeartbeats 1000000 in
theorem copyCheck_used (b : Nat) (w : World) (h0 : w.cell? ⟨b, 0, none⟩ = some (.pointer (some ⟨b, 0, none⟩))) :
    Calls Tryz.prog 88 #[.pointer (some ⟨b, 0, none⟩)] w fun e w' => e = .returned (.tuple #[]) ∧ w = w' := by
  obtain ⟨j, hj, _, _, _⟩ := info_parts Tryz.info93
  have hq := Lib.run_neq_ptr_same (P := Tryz.prog) w ⟨b, 0, none⟩ Tryz.underlying91 hj
  clear hj
  go_enter Tryz.func88, Tryz.ntmps88
  go_wp2
  go_end0
  exact ⟨rfl, rfl⟩
set_option maxRecDepth 100000 in
set_option maxHeartbeats 1000000 in
theorem copyCheck_fresh (b : Nat) (w : World) (h0 : w.cell? ⟨b, 0, none⟩ = some (.pointer none)) (hsh : w.shape? b = some (93, 2)) (hfz : w.frozen? ⟨b, 0, none⟩ = false) :
    Calls Tryz.prog 88 #[.pointer (some ⟨b, 0, none⟩)] w fun e w' => e = .returned (.tuple #[]) ∧ w.setCell ⟨b, 0, none⟩ (.pointer (some ⟨b, 0, none⟩)) = w' := by
  obtain ⟨j, hj, _, hjs, _⟩ := info_parts Tryz.info93
  have q1 := Lib.run_to_unsafe (P := Tryz.prog) w ⟨b, 0, none⟩ Tryz.underlying91 Tryz.underlying151 hj (by rw [hjs]; decide) hsh (Nat.zero_lt_succ 1)
  have q2 := Lib.run_from_unsafe (P := Tryz.prog) w ⟨b, 0, none⟩ Tryz.underlying151 Tryz.underlying91 hj hsh builder_lies
  have q3 := run_callFunc_extern Tryz.func112 (by kernel_rfl) (by kernel_rfl) (by kernel_rfl) (e := Extern.AbiNoEscape.same) (by kernel_rfl)
  have Q1 := Lib.hid q1
  have Q2 := Lib.hid q2
  have Q3 := Lib.hid q3
  clear q1 q2 q3 hj hjs
  go_enter Tryz.func88, Tryz.ntmps88
  go_wp2
  rw [Q1.out]
  simp only [Result.andThen]
  rw [Oper.upon_value]
  go_wp2
  rw [Q3.out]
  rw [Lib.run_noEscape]
  simp only [Result.andThen]
  rw [Oper.upon_value]
  go_wp2
  rw [Q2.out]
  simp only [Result.andThen]
  rw [Oper.upon_value]
  go_wp2
  go_end0
  exact ⟨rfl, rfl⟩
theorem copyCheck_any (B b : Nat) (bs : List Value) (w : World) (h : Lib.IsBuilder 93 5 B b bs w) :
    Calls Tryz.prog 88 #[.pointer (some ⟨b, 0, none⟩)] w fun e w' => e = .returned (.tuple #[]) ∧ (Lib.BuilderAt 93 5 B b (.pointer (some ⟨b, 0, none⟩)) bs w' ∧ Below B w w') := by
  rcases h with h | h
  · refine (copyCheck_fresh b w h.cell0 h.shape h.frozen0).mono ?_
    rintro e w' ⟨rfl, rfl⟩
    exact ⟨rfl, h.used _, (Below.refl B w).setCell (p := ⟨b, 0, none⟩) h.1 _⟩
  · refine (copyCheck_used b w h.cell0).mono ?_
    rintro e w' ⟨rfl, rfl⟩
    exact ⟨rfl, h, Below.refl _ _⟩
set_option maxHeartbeats 1000000 in
theorem writeString_any (B b : Nat) (bs : List Value) (s : ByteArray) (w : World) (h : Lib.IsBuilder 93 5 B b bs w) (hlen : bs.length + s.size ≤ 1000000) (hBw : B ≤ w.heap.size) :
    Calls Tryz.prog 51 #[.pointer (some ⟨b, 0, none⟩), .string s] w fun e w' => e = .returned (.tuple #[.int .i64 s.size, .nilIface]) ∧ (Lib.IsBuilder 93 5 B b (bs ++ Lib.strCells s) w' ∧ Below B w w') := by
  obtain ⟨i0, hi, hz0, hz1, hz2⟩ := info_parts Tryz.info5
  have Hi := Lib.hid hi; have Hz0 := Lib.hid hz0; have Hz1 := Lib.hid hz1; have Hz2 := Lib.hid hz2
  have H := Lib.hid h
  clear hi hz0 hz1 hz2 h
  go_enter Tryz.func51, Tryz.ntmps51
  go_wp2_with (go_at_call 88; refine (copyCheck_any B b bs _ H.out).mono ?_)
  rintro e w1 ⟨rfl, h1, hb1⟩
  obtain ⟨hB, v, hbk, hown, hne⟩ := h1
  have c0 : w1.cell? ⟨b, 0, none⟩ = some (.pointer (some ⟨b, 0, none⟩)) := by rw [Lib.cell_of_heap hbk]; rfl
  have c1 : w1.cell? ⟨b, 1, none⟩ = some v := by rw [Lib.cell_of_heap hbk]; rfl
  have HBK := Lib.hid hbk
  have HNE := Lib.hid hne
  clear hbk hne
  go_wp2_with (at_builtin; refine Lib.wpList_append_own_string _ rfl _ _ 22 9 rfl B 5 i0 Tryz.underlying22 Tryz.underlying9 Hi.out Hz0.out Hz1.out Hz2.out _ _ _ rfl hown s rfl ?c3 ?c4 ?c5 ?_)
  case c3 => unfold maxLen; omega
  case c4 => omega
  case c5 => have := hb1.size; omega
  intro v' w2 hown' hgrow _
  have hlt : b < w1.heap.size := by
    rcases Nat.lt_or_ge b w1.heap.size with h' | h'
    · exact h'
    · have := HBK.out; simp [Array.getElem?_eq_none h'] at this
  have hb2 : w2.heap[b]? = some (.cells #[.pointer (some ⟨b, 0, none⟩), v] 93 (0, 0)) := by
    rw [hgrow.block b hlt (fun e => HNE.out e.symm)]
    exact HBK.out
  have d0 : w2.cell? ⟨b, 0, none⟩ = some (.pointer (some ⟨b, 0, none⟩)) := by rw [Lib.cell_of_heap hb2]; rfl
  have d1 : w2.cell? ⟨b, 1, none⟩ = some v := by rw [Lib.cell_of_heap hb2]; rfl
  have f1 : w2.frozen? ⟨b, 1, none⟩ = false := Lib.frozen_of_heap hb2 1
  obtain ⟨ao, n', cap, rfl⟩ : ∃ ao n' cap, v' = .slice ao n' cap := by
    rcases hown'.2 with ⟨hv, _⟩ | ⟨g, cap, cur, hv, _⟩
    · exact ⟨_, _, _, hv⟩
    · exact ⟨_, _, _, hv⟩
  have HB2 := Lib.hid hb2
  clear hb2
  go_wp2
  go_ret2
  refine ⟨rfl, .inr ?_, ?_⟩
  · exact Lib.BuilderAt.put (T := 93) (e := 5) hB HB2.out (bs' := bs ++ Lib.strCells s) (by simpa [Lib.strCells_length] using hown') (by decide)
  · exact (hb1.grown hgrow (by have := hb1.size; omega) (fun k hk => (hown.lt k hk).1)).setCell (p := ⟨b, 1, none⟩) hB _
/-- a builder is as it was where nothing that lay there has turned -/
theorem builder_below {T e : TypeId} {B b : Nat} {bs : List Value} {w w' : World} (h : Lib.IsBuilder T e B b bs w) (hb : Below w.heap.size w w') : Lib.IsBuilder T e B b bs w' := by
  have key : ∀ p, Lib.BuilderAt T e B b p bs w → Lib.BuilderAt T e B b p bs w' := fun p h => by
    have hlt := Lib.BuilderAt.lt h
    obtain ⟨hB, v, hbk, hown, hne⟩ := h
    exact ⟨hB, v, (hb.block b hlt).trans hbk, hown.kept (row := none) ⟨hb.os, hb.tape, hb.output, hb.size, fun k hk _ => hb.block k hk⟩ (by cases hx : v.ownBlock <;> simp), hne⟩
  rcases h with h | h
  · exact .inl (key _ h)
  · exact .inr (key _ h)
end Go.Proofs.YtagbfklcbekceaaGreatDoor

namespace Go.Proofs.YtagbfklcbekceaaGreatDoor
open Go.RowKit
open Go.Lib (decDigits itoa byteCells)

def txI (x : Int) : List UInt8 := itoa x
def txA (x : Int) : List UInt8 := txt x.toNat
def In64 (xs : List Int) : Prop := ∀ x ∈ xs, -9223372036854775808 ≤ x ∧ x ≤ 9223372036854775807
def InU32 (xs : List Int) : Prop := ∀ x ∈ xs, 0 ≤ x ∧ x < 4294967296
theorem txI_len {x : Int} (h : -9223372036854775808 ≤ x ∧ x ≤ 9223372036854775807) : (txI x).length ≤ 20 := itoa_len x h.1 h.2
theorem txA_len {x : Int} (h : 0 ≤ x ∧ x < 4294967296) : (txA x).length ≤ 20 := by
  unfold txA
  rw [← txtPre_four x.toNat (by omega)]
  have := txtPre_len x.toNat 4
  omega
theorem jnK_len2 {f : Int → List UInt8} {xs : List Int} (h : ∀ x ∈ xs, (f x).length ≤ 20) (k : Nat) (hk : k ≤ xs.length) : (jnK f xs k).length ≤ k * 21 := by
  induction k with
  | zero => simp [jnK]
  | succ k ih =>
    have h1 := h _ (getD_mem (xs := xs) (i := k) (by omega))
    have h2 := ih (by omega)
    rw [jnK, List.length_append, List.length_append]
    split
    · rw [List.length_singleton]; omega
    · rw [List.length_nil]; omega
theorem jnK_next0 (f : Int → List UInt8) (xs : List Int) (k : Nat) (h : ¬ 0 < k) : jnK f xs (k + 1) = jnK f xs k ++ f (xs.getD k 0) := by
  conv => lhs; unfold jnK
  rw [if_neg h, List.append_nil]
theorem jnK_next (f : Int → List UInt8) (xs : List Int) (k : Nat) (h : 0 < k) : jnK f xs (k + 1) = jnK f xs k ++ [44] ++ f (xs.getD k 0) := by
  conv => lhs; unfold jnK
  rw [if_pos h]
theorem txtI_any (x : Int) (h : -9223372036854775808 ≤ x ∧ x ≤ 9223372036854775807) (w : World) (hl : Lds w) :
    Calls Tryz.prog 21 #[.int .i64 x] w fun e w' => e = .returned (.string (str (txI x))) ∧ Below w.heap.size w w' := numText_any x h.1 h.2 w hl
theorem txtA_any (x : Int) (h : 0 ≤ x ∧ x < 4294967296) (w : World) (hl : Lds w) :
    Calls Tryz.prog 24 #[.int .u32 x] w fun e w' => e = .returned (.string (str (txA x))) ∧ Below w.heap.size w w' := by
  have h2 := text_any x.toNat (by omega) w hl.1
  rw [show ((x.toNat : Nat) : Int) = x by omega] at h2
  exact h2
theorem cells_app (a b : List UInt8) : byteCells a ++ Lib.strCells (str b) = byteCells (a ++ b) := by rw [byteCells_app]; rfl

set_option maxRecDepth 100000 in
set_option maxHeartbeats 2000000 in
theorem writeI_any (A : Option Addr) (n c : Nat) (xs : List Int) (w : World) (h : ISl w .i64 A n c xs) (hn : n ≤ 1000) (hr : In64 xs) (hl : Lds w) :
    Calls Tryz.prog 87 #[.slice A n c, .func (.func 21) #[] #[]] w fun e w' => e = .returned (.string (str (jn txI xs))) ∧ Below w.heap.size w w' := by
  have hle := h.le
  have hcap := h.cap
  have hlen := h.len
  have HL := Lib.hid hl
  have H := Lib.hid h
  have HR := Lib.hid hr
  have JL := Lib.hid (fun k (hk : k ≤ xs.length) => jnK_len2 (f := txI) (fun x hx => txI_len (hr x hx)) k hk)
  have HLEN := Lib.hid hlen
  have B0 := Lib.hid (Lib.fresh_isBuilder 93 5 w)
  clear h hr hl hlen
  go_enter Tryz.func87, Tryz.ntmps87
  go_wp2
  go_loopw [10] (fun i wr => ∃ k : Nat, k ≤ n ∧ i = .int .i64 (k : Int) ∧ Lib.IsBuilder 93 5 w.heap.size w.heap.size (byteCells (jnK txI xs k)) wr ∧ Below w.heap.size w wr) (fun i _ => n - (intOf i).toNat)
  case atStart => exact ⟨0, by omega, rfl, B0.out, (Below.refl _ _).alloc (Nat.le_refl _) _⟩
  case round =>
    obtain ⟨k, hk, rfl, hbd, hb⟩ := hrel
    have hjl := JL.out k (by rw [HLEN.out]; exact hk)
    have hjs : (byteCells (jnK txI xs k)).length = (jnK txI xs k).length := Lib.byteCells_length _
    have HJS := Lib.hid hjs
    clear hjs
    by_cases hlt : k < n
    · obtain ⟨b, off, rfl, hB, hc⟩ := H.out.2.2.2 (by omega)
      have c0 : wr.cell? ⟨b, off + k, none⟩ = some (.int .i64 (xs.getD k 0)) := (hb.cell (p := ⟨b, off + k, none⟩) hB).trans (hc k hlt)
      have hx := HR.out _ (getD_mem (xs := xs) (i := k) (by rw [HLEN.out]; exact hlt))
      have hxl := txI_len hx
      clear hc
      by_cases k0 : 0 < k
      · have N := Lib.hid (jnK_next txI xs k k0)
        generalize xs.getD k 0 = x at c0 hx hxl N
        have HX := Lib.hid hx
        clear hx
        have W1 := Lib.hid (show (byteCells (jnK txI xs k)).length + (⟨#[44]⟩ : ByteArray).size ≤ 1000000 by rw [HJS.out]; have : (⟨#[44]⟩ : ByteArray).size = 1 := rfl; omega)
        have W2 := Lib.hid (show (byteCells (jnK txI xs k) ++ Lib.strCells ⟨#[44]⟩).length + (str (txI x)).size ≤ 1000000 by have e1 := str_size (txI x); have e2 : (⟨#[44]⟩ : ByteArray).size = 1 := rfl; rw [List.length_append, Lib.strCells_length, e1, e2, HJS.out]; omega)
        go_wp2_with (first
          | (go_at_call 51; (with_reducible refine (writeString_any w.heap.size w.heap.size (byteCells (jnK txI xs k)) ⟨#[44]⟩ _ hbd W1.out hb.size).mono ?_); rintro e w1 ⟨rfl, hbd1, hb1⟩; have hbb1 := hb.trans hb1)
          | (go_at_call 21; (with_reducible refine (txtI_any x HX.out _ (HL.out.below hbb1)).mono ?_); rintro e w2 ⟨rfl, hb2⟩; have hbd2 := builder_below hbd1 hb2; have hbb2 := hbb1.trans (hb2.mono hbb1.size))
          | (go_at_call 51; (with_reducible refine (writeString_any w.heap.size w.heap.size (byteCells (jnK txI xs k) ++ Lib.strCells ⟨#[44]⟩) (str (txI x)) _ hbd2 W2.out hbb2.size).mono ?_); rintro e w3 ⟨rfl, hbd3, hb3⟩; have hbb3 := hbb2.trans hb3))
        have hend : Lib.IsBuilder 93 5 w.heap.size w.heap.size (byteCells (jnK txI xs (k + 1))) w3 := by
          rw [N.out, ← cells_app, ← cells_app]
          exact hbd3
        clear hbd hbd1 hbd2 hbd3 hb hb1 hb2 hb3 hbb1 hbb2
        go_roundw
        case rel => exact ⟨k + 1, by omega, by go_num, hend, hbb3⟩
        case measure => simp [intOf]; omega
      · have N := Lib.hid (jnK_next0 txI xs k k0)
        generalize xs.getD k 0 = x at c0 hx hxl N
        have HX := Lib.hid hx
        clear hx
        have W2 := Lib.hid (show (byteCells (jnK txI xs k)).length + (str (txI x)).size ≤ 1000000 by rw [HJS.out, str_size]; omega)
        go_wp2_with (first
          | (go_at_call 21; (with_reducible refine (txtI_any x HX.out _ (HL.out.below hb)).mono ?_); rintro e w2 ⟨rfl, hb2⟩; have hbd2 := builder_below hbd hb2; have hbb2 := hb.trans (hb2.mono hb.size))
          | (go_at_call 51; (with_reducible refine (writeString_any w.heap.size w.heap.size (byteCells (jnK txI xs k)) (str (txI x)) _ hbd2 W2.out hbb2.size).mono ?_); rintro e w3 ⟨rfl, hbd3, hb3⟩; have hbb3 := hbb2.trans hb3))
        have hend : Lib.IsBuilder 93 5 w.heap.size w.heap.size (byteCells (jnK txI xs (k + 1))) w3 := by
          rw [N.out, ← cells_app]
          exact hbd3
        clear hbd hbd2 hbd3 hb hb2 hb3 hbb2
        go_roundw
        case rel => exact ⟨k + 1, by omega, by go_num, hend, hbb3⟩
        case measure => simp [intOf]; omega
    · obtain rfl : k = n := by omega
      have E := Lib.hid (show jn txI xs = jnK txI xs k by unfold jn; rw [HLEN.out])
      go_wp2_with (go_at_call 52; (with_reducible refine (Tryz.Builder_String_any w.heap.size w.heap.size (jnK txI xs k) _ hbd hb.size).mono ?_); rintro e w1 ⟨rfl, hb1⟩)
      go_ret
      exact ⟨by rw [E.out]; rfl, hb.trans hb1⟩

set_option maxRecDepth 100000 in
theorem listI_any (A : Option Addr) (n c : Nat) (xs : List Int) (w : World) (h : ISl w .i64 A n c xs) (hn : n ≤ 1000) (hr : In64 xs) (hl : Lds w) :
    Calls Tryz.prog 47 #[.slice A n c] w fun e w' => e = .returned (.string (str (jn txI xs))) ∧ Below w.heap.size w w' := by
  have HH := Lib.hid (writeI_any A n c xs w h hn hr hl)
  clear h hr hl
  go_enter Tryz.func47, Tryz.ntmps47
  go_wp2_with (go_at_call 87; (with_reducible refine HH.out.mono ?_); rintro e w1 ⟨rfl, hb1⟩)
  go_ret
  exact ⟨rfl, hb1⟩

set_option maxRecDepth 100000 in
set_option maxHeartbeats 2000000 in
theorem writeA_any (A : Option Addr) (n c : Nat) (xs : List Int) (w : World) (h : ISl w .u32 A n c xs) (hn : n ≤ 1000) (hr : InU32 xs) (hl : Lds w) :
    Calls Tryz.prog 46 #[.slice A n c, .func (.func 24) #[] #[]] w fun e w' => e = .returned (.string (str (jn txA xs))) ∧ Below w.heap.size w w' := by
  have hle := h.le
  have hcap := h.cap
  have hlen := h.len
  have HL := Lib.hid hl
  have H := Lib.hid h
  have HR := Lib.hid hr
  have JL := Lib.hid (fun k (hk : k ≤ xs.length) => jnK_len2 (f := txA) (fun x hx => txA_len (hr x hx)) k hk)
  have HLEN := Lib.hid hlen
  have B0 := Lib.hid (Lib.fresh_isBuilder 93 5 w)
  clear h hr hl hlen
  go_enter Tryz.func46, Tryz.ntmps46
  go_wp2
  go_loopw [10] (fun i wr => ∃ k : Nat, k ≤ n ∧ i = .int .i64 (k : Int) ∧ Lib.IsBuilder 93 5 w.heap.size w.heap.size (byteCells (jnK txA xs k)) wr ∧ Below w.heap.size w wr) (fun i _ => n - (intOf i).toNat)
  case atStart => exact ⟨0, by omega, rfl, B0.out, (Below.refl _ _).alloc (Nat.le_refl _) _⟩
  case round =>
    obtain ⟨k, hk, rfl, hbd, hb⟩ := hrel
    have hjl := JL.out k (by rw [HLEN.out]; exact hk)
    have hjs : (byteCells (jnK txA xs k)).length = (jnK txA xs k).length := Lib.byteCells_length _
    have HJS := Lib.hid hjs
    clear hjs
    by_cases hlt : k < n
    · obtain ⟨b, off, rfl, hB, hc⟩ := H.out.2.2.2 (by omega)
      have c0 : wr.cell? ⟨b, off + k, none⟩ = some (.int .u32 (xs.getD k 0)) := (hb.cell (p := ⟨b, off + k, none⟩) hB).trans (hc k hlt)
      have hx := HR.out _ (getD_mem (xs := xs) (i := k) (by rw [HLEN.out]; exact hlt))
      have hxl := txA_len hx
      clear hc
      by_cases k0 : 0 < k
      · have N := Lib.hid (jnK_next txA xs k k0)
        generalize xs.getD k 0 = x at c0 hx hxl N
        have HX := Lib.hid hx
        clear hx
        have W1 := Lib.hid (show (byteCells (jnK txA xs k)).length + (⟨#[44]⟩ : ByteArray).size ≤ 1000000 by rw [HJS.out]; have : (⟨#[44]⟩ : ByteArray).size = 1 := rfl; omega)
        have W2 := Lib.hid (show (byteCells (jnK txA xs k) ++ Lib.strCells ⟨#[44]⟩).length + (str (txA x)).size ≤ 1000000 by have e1 := str_size (txA x); have e2 : (⟨#[44]⟩ : ByteArray).size = 1 := rfl; rw [List.length_append, Lib.strCells_length, e1, e2, HJS.out]; omega)
        go_wp2_with (first
          | (go_at_call 51; (with_reducible refine (writeString_any w.heap.size w.heap.size (byteCells (jnK txA xs k)) ⟨#[44]⟩ _ hbd W1.out hb.size).mono ?_); rintro e w1 ⟨rfl, hbd1, hb1⟩; have hbb1 := hb.trans hb1)
          | (go_at_call 24; (with_reducible refine (txtA_any x HX.out _ (HL.out.below hbb1)).mono ?_); rintro e w2 ⟨rfl, hb2⟩; have hbd2 := builder_below hbd1 hb2; have hbb2 := hbb1.trans (hb2.mono hbb1.size))
          | (go_at_call 51; (with_reducible refine (writeString_any w.heap.size w.heap.size (byteCells (jnK txA xs k) ++ Lib.strCells ⟨#[44]⟩) (str (txA x)) _ hbd2 W2.out hbb2.size).mono ?_); rintro e w3 ⟨rfl, hbd3, hb3⟩; have hbb3 := hbb2.trans hb3))
        have hend : Lib.IsBuilder 93 5 w.heap.size w.heap.size (byteCells (jnK txA xs (k + 1))) w3 := by
          rw [N.out, ← cells_app, ← cells_app]
          exact hbd3
        clear hbd hbd1 hbd2 hbd3 hb hb1 hb2 hb3 hbb1 hbb2
        go_roundw
        case rel => exact ⟨k + 1, by omega, by go_num, hend, hbb3⟩
        case measure => simp [intOf]; omega
      · have N := Lib.hid (jnK_next0 txA xs k k0)
        generalize xs.getD k 0 = x at c0 hx hxl N
        have HX := Lib.hid hx
        clear hx
        have W2 := Lib.hid (show (byteCells (jnK txA xs k)).length + (str (txA x)).size ≤ 1000000 by rw [HJS.out, str_size]; omega)
        go_wp2_with (first
          | (go_at_call 24; (with_reducible refine (txtA_any x HX.out _ (HL.out.below hb)).mono ?_); rintro e w2 ⟨rfl, hb2⟩; have hbd2 := builder_below hbd hb2; have hbb2 := hb.trans (hb2.mono hb.size))
          | (go_at_call 51; (with_reducible refine (writeString_any w.heap.size w.heap.size (byteCells (jnK txA xs k)) (str (txA x)) _ hbd2 W2.out hbb2.size).mono ?_); rintro e w3 ⟨rfl, hbd3, hb3⟩; have hbb3 := hbb2.trans hb3))
        have hend : Lib.IsBuilder 93 5 w.heap.size w.heap.size (byteCells (jnK txA xs (k + 1))) w3 := by
          rw [N.out, ← cells_app]
          exact hbd3
        clear hbd hbd2 hbd3 hb hb2 hb3 hbb2
        go_roundw
        case rel => exact ⟨k + 1, by omega, by go_num, hend, hbb3⟩
        case measure => simp [intOf]; omega
    · obtain rfl : k = n := by omega
      have E := Lib.hid (show jn txA xs = jnK txA xs k by unfold jn; rw [HLEN.out])
      go_wp2_with (go_at_call 52; (with_reducible refine (Tryz.Builder_String_any w.heap.size w.heap.size (jnK txA xs k) _ hbd hb.size).mono ?_); rintro e w1 ⟨rfl, hb1⟩)
      go_ret
      exact ⟨by rw [E.out]; rfl, hb.trans hb1⟩

set_option maxRecDepth 100000 in
theorem listA_any (A : Option Addr) (n c : Nat) (xs : List Int) (w : World) (h : ISl w .u32 A n c xs) (hn : n ≤ 1000) (hr : InU32 xs) (hl : Lds w) :
    Calls Tryz.prog 25 #[.slice A n c] w fun e w' => e = .returned (.string (str (jn txA xs))) ∧ Below w.heap.size w w' := by
  have HH := Lib.hid (writeA_any A n c xs w h hn hr hl)
  clear h hr hl
  go_enter Tryz.func25, Tryz.ntmps25
  go_wp2_with (go_at_call 46; (with_reducible refine HH.out.mono ?_); rintro e w1 ⟨rfl, hb1⟩)
  go_ret
  exact ⟨rfl, hb1⟩

end Go.Proofs.YtagbfklcbekceaaGreatDoor

namespace Go.Proofs.YtagbfklcbekceaaGreatDoor
open Go.RowKit
open Go.Lib (decDigits byteCells)

theorem txt_len (a : Nat) (h : a < 4294967296) : (txt a).length ≤ 15 := by
  have l1 := dec3 (a / 16777216) (by omega)
  have l2 := dec3 (a / 65536 % 256) (by omega)
  have l3 := dec3 (a / 256 % 256) (by omega)
  have l4 := dec3 (a % 256) (by omega)
  rw [txt_parts]
  simp
  omega
def Held (w W : World) (b : Nat) (x y : Value) : Prop := W.cell? ⟨b, 0, none⟩ = some x ∧ W.cell? ⟨b, 1, none⟩ = some y ∧ Below w.heap.size w W ∧ b < W.heap.size
theorem text_held {w W : World} {b : Nat} {x y : Value} (a : Nat) (ha : a < 4294967296) (htab : Lib.TabIs Tryz.prog w pow10 .u64 Lib.pow10Tab) (h : W.cell? ⟨b, 0, none⟩ = some x ∧ W.cell? ⟨b, 1, none⟩ = some y ∧ Below w.heap.size w W ∧ b < W.heap.size) :
    Calls Tryz.prog 24 #[.int .u32 (a : Int)] W fun e w' => e = .returned (.string (str (txt a))) ∧ Below W.heap.size W w' := text_any a ha W (tab_below htab h.2.2.1)
theorem itoa_any (b : Nat) (hb : b ≤ 32) (w : World) : Calls Tryz.prog 42 #[.int .i64 (b : Int)] w fun e w' => e = .returned (.string (str (decDigits b))) ∧ Below w.heap.size w w' := by
  refine (Tryz.strconv_Itoa_small b (by omega) w).mono ?_
  rintro e w' ⟨rfl, rfl⟩
  exact ⟨rfl, Below.refl _ _⟩
theorem prefixText_no (A B : Int) (hr : RT B = false) (w : World) : Calls Tryz.prog 27 #[.agg #[.int .u32 A, .int .i64 B]] w fun e w' => e = .returned (.string ⟨#[]⟩) ∧ Below w.heap.size w w' := by
  go_enter Tryz.func27, Tryz.ntmps27
  go_wp2_with (go_at_call 48; refine (right_is A B false hr _).mono ?_; rintro e w1 ⟨rfl, hb1⟩)
  go_ret
  exact ⟨rfl, one_below hb1⟩
theorem ptxt_str (a b : Nat) : str (txt a) ++ ⟨#[47]⟩ ++ str (decDigits b) = str (ptxt a b) := by
  rw [show (⟨#[47]⟩ : ByteArray) = str [47] from rfl, str_append, str_append]
  unfold ptxt
  simp
set_option maxHeartbeats 1000000 in
theorem prefixText_yes (A b : Nat) (hA : A < 4294967296) (hb : b ≤ 32) (w : World) (htab : Lib.TabIs Tryz.prog w pow10 .u64 Lib.pow10Tab) :
    Calls Tryz.prog 27 #[.agg #[.int .u32 (A : Int), .int .i64 (b : Int)]] w fun e w' => e = .returned (.string (str (ptxt A b))) ∧ Below w.heap.size w w' := by
  have hr : RT (b : Int) = true := by rw [RT_iff]; omega
  have HT := Lib.hid htab
  have l1 := txt_len A hA
  have l2 := dec3 b (by omega)
  have E := Lib.hid (ptxt_str A b)
  have z1 : (str (txt A)).size + (⟨#[47]⟩ : ByteArray).size ≤ 140737488355328 := by rw [str_size]; simp [ByteArray.size]; omega
  have z2 : (str (txt A) ++ ⟨#[47]⟩).size + (str (decDigits b)).size ≤ 140737488355328 := by rw [ByteArray.size_append, str_size, str_size]; simp [ByteArray.size]; omega
  clear htab
  go_enter Tryz.func27, Tryz.ntmps27
  go_wp2_with (go_at_call 48; refine (right_is A b true hr _).mono ?_; rintro e w1 ⟨rfl, hb1⟩; obtain ⟨hc0, hc1, hB1, hl1⟩ := boxed_first hb1)
  go_region_held_law (fun w' => w'.cell? ⟨w.heap.size, 0, none⟩ = some (.int .u32 (A : Int)) ∧ w'.cell? ⟨w.heap.size, 1, none⟩ = some (.int .i64 (b : Int)) ∧ Below w.heap.size w w' ∧ w.heap.size < w'.heap.size) (first | assumption | exact boxed_keep (by assumption) (by assumption) | exact boxed_drew hc0 hc1 hB1 hl1)
    (first | (go_at_call 24; refine (text_held A hA HT.out (by assumption)).mono ?_; rintro e w2 ⟨rfl, hb2⟩) | (go_at_call 42; refine (itoa_any b hb _).mono ?_; rintro e w3 ⟨rfl, hb3⟩))
  all_goals
    go_wp2
    go_ret
    exact ⟨by rw [← E.out]; rfl, (boxed_keep (by assumption) (boxed_keep (by assumption) (boxed_drew hc0 hc1 hB1 hl1))).2.2.1⟩
end Go.Proofs.YtagbfklcbekceaaGreatDoor
