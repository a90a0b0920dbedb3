/- The contracts of num.ListText, num.AddrsText, palingref03.ListText, palingref03.AddrsText: lists as texts. -/
import Derived.Test.YtjmbgfhjdmoflaaDoorSlice
import Derived.Test.YtjmbgfhjdmoflaaDoorItoa
import Derived.Test.YtjmbgfhjdmoflaaDoorBuilder
import Derived.Test.YtjmbgfhjdmoflaaDoorAddrText
namespace Go.Proofs.YtjmbgfhjdmoflaaDoor
open Go.RowKit
open Go.Lib (decDigits itoa byteCells)

def txI (x : Int) : List UInt8 := itoa x
def txA (x : Int) : List UInt8 := txt x.toNat
def In64 (xs : List Int) : Prop := ∀ x ∈ xs, -9223372036854775808 ≤ x ∧ x ≤ 9223372036854775807
def InU32 (xs : List Int) : Prop := ∀ x ∈ xs, 0 ≤ x ∧ x < 4294967296
theorem txI_len {x : Int} (h : -9223372036854775808 ≤ x ∧ x ≤ 9223372036854775807) : (txI x).length ≤ 20 := itoa_len x h.1 h.2
theorem txA_len {x : Int} (h : 0 ≤ x ∧ x < 4294967296) : (txA x).length ≤ 20 := by
  unfold txA
  rw [← txtPre_four x.toNat (by omega)]
  have := txtPre_len x.toNat 4
  omega
theorem jnK_len2 {f : Int → List UInt8} {xs : List Int} (h : ∀ x ∈ xs, (f x).length ≤ 20) (k : Nat) (hk : k ≤ xs.length) : (jnK f xs k).length ≤ k * 21 := by
  induction k with
  | zero => simp [jnK]
  | succ k ih =>
    have h1 := h _ (getD_mem (xs := xs) (i := k) (by omega))
    have h2 := ih (by omega)
    rw [jnK, List.length_append, List.length_append]
    split
    · rw [List.length_singleton]; omega
    · rw [List.length_nil]; omega
theorem jnK_next0 (f : Int → List UInt8) (xs : List Int) (k : Nat) (h : ¬ 0 < k) : jnK f xs (k + 1) = jnK f xs k ++ f (xs.getD k 0) := by
  conv => lhs; unfold jnK
  rw [if_neg h, List.append_nil]
theorem jnK_next (f : Int → List UInt8) (xs : List Int) (k : Nat) (h : 0 < k) : jnK f xs (k + 1) = jnK f xs k ++ [44] ++ f (xs.getD k 0) := by
  conv => lhs; unfold jnK
  rw [if_pos h]
theorem txtI_any (x : Int) (h : -9223372036854775808 ≤ x ∧ x ≤ 9223372036854775807) (w : World) (hl : Lds w) :
    Calls Tryd.prog 10 #[.int .i64 x] w fun e w' => e = .returned (.string (str (txI x))) ∧ Below w.heap.size w w' := numText_any x h.1 h.2 w hl
theorem txtA_any (x : Int) (h : 0 ≤ x ∧ x < 4294967296) (w : World) (hl : Lds w) :
    Calls Tryd.prog 41 #[.int .u32 x] w fun e w' => e = .returned (.string (str (txA x))) ∧ Below w.heap.size w w' := by
  have h2 := text_any x.toNat (by omega) w hl.1
  rw [show ((x.toNat : Nat) : Int) = x by omega] at h2
  exact h2
theorem refTxtI_any (x : Int) (h : -9223372036854775808 ≤ x ∧ x ≤ 9223372036854775807) (w : World) :
    Calls Tryd.prog 11 #[.int .i64 x] w fun e w' => e = .returned (.string (str (txI x))) ∧ Below w.heap.size w w' := refNumText_any x h.1 h.2 w
theorem refTxtA_any (x : Int) (h : 0 ≤ x ∧ x < 4294967296) (w : World) :
    Calls Tryd.prog 42 #[.int .u32 x] w fun e w' => e = .returned (.string (str (txA x))) ∧ Below w.heap.size w w' := by
  have h2 := refText_any x.toNat (by omega) w
  rw [show ((x.toNat : Nat) : Int) = x by omega] at h2
  exact h2
theorem cells_app (a b : List UInt8) : byteCells a ++ Lib.strCells (str b) = byteCells (a ++ b) := by rw [byteCells_app]; rfl

set_option maxRecDepth 100000 in
set_option maxHeartbeats 2000000 in
theorem writeI_any (A : Option Addr) (n c : Nat) (xs : List Int) (w : World) (h : ISl w .i64 A n c xs) (hn : n ≤ 1000) (hr : In64 xs) (hl : Lds w) :
    Calls Tryd.prog 39 #[.slice A n c, .func (.func 10) #[] #[]] w fun e w' => e = .returned (.string (str (jn txI xs))) ∧ Below w.heap.size w w' := by
  have hle := h.le
  have hcap := h.cap
  have hlen := h.len
  have HL := Lib.hid hl
  have H := Lib.hid h
  have HR := Lib.hid hr
  have JL := Lib.hid (fun k (hk : k ≤ xs.length) => jnK_len2 (f := txI) (fun x hx => txI_len (hr x hx)) k hk)
  have HLEN := Lib.hid hlen
  have B0 := Lib.hid (Lib.fresh_isBuilder 77 5 w)
  clear h hr hl hlen
  go_enter Tryd.func39, Tryd.ntmps39
  go_wp2
  go_loopw [10] (fun i wr => ∃ k : Nat, k ≤ n ∧ i = .int .i64 (k : Int) ∧ Lib.IsBuilder 77 5 w.heap.size w.heap.size (byteCells (jnK txI xs k)) wr ∧ Below w.heap.size w wr) (fun i _ => n - (intOf i).toNat)
  case atStart => exact ⟨0, by omega, rfl, B0.out, (Below.refl _ _).alloc (Nat.le_refl _) _⟩
  case round =>
    obtain ⟨k, hk, rfl, hbd, hb⟩ := hrel
    have hjl := JL.out k (by rw [HLEN.out]; exact hk)
    have hjs : (byteCells (jnK txI xs k)).length = (jnK txI xs k).length := Lib.byteCells_length _
    have HJS := Lib.hid hjs
    clear hjs
    by_cases hlt : k < n
    · obtain ⟨b, off, rfl, hB, hc⟩ := H.out.2.2.2 (by omega)
      have c0 : wr.cell? ⟨b, off + k, none⟩ = some (.int .i64 (xs.getD k 0)) := (hb.cell (p := ⟨b, off + k, none⟩) hB).trans (hc k hlt)
      have hx := HR.out _ (getD_mem (xs := xs) (i := k) (by rw [HLEN.out]; exact hlt))
      have hxl := txI_len hx
      clear hc
      by_cases k0 : 0 < k
      · have N := Lib.hid (jnK_next txI xs k k0)
        generalize xs.getD k 0 = x at c0 hx hxl N
        have HX := Lib.hid hx
        clear hx
        have W1 := Lib.hid (show (byteCells (jnK txI xs k)).length + (⟨#[44]⟩ : ByteArray).size ≤ 1000000 by rw [HJS.out]; have : (⟨#[44]⟩ : ByteArray).size = 1 := rfl; omega)
        have W2 := Lib.hid (show (byteCells (jnK txI xs k) ++ Lib.strCells ⟨#[44]⟩).length + (str (txI x)).size ≤ 1000000 by have e1 := str_size (txI x); have e2 : (⟨#[44]⟩ : ByteArray).size = 1 := rfl; rw [List.length_append, Lib.strCells_length, e1, e2, HJS.out]; omega)
        go_wp2_with (first
          | (go_at_call 52; (with_reducible refine (writeString_any w.heap.size w.heap.size (byteCells (jnK txI xs k)) ⟨#[44]⟩ _ hbd W1.out hb.size).mono ?_); rintro e w1 ⟨rfl, hbd1, hb1⟩; have hbb1 := hb.trans hb1)
          | (go_at_call 10; (with_reducible refine (txtI_any x HX.out _ (HL.out.below hbb1)).mono ?_); rintro e w2 ⟨rfl, hb2⟩; have hbd2 := builder_below hbd1 hb2; have hbb2 := hbb1.trans (hb2.mono hbb1.size))
          | (go_at_call 52; (with_reducible refine (writeString_any w.heap.size w.heap.size (byteCells (jnK txI xs k) ++ Lib.strCells ⟨#[44]⟩) (str (txI x)) _ hbd2 W2.out hbb2.size).mono ?_); rintro e w3 ⟨rfl, hbd3, hb3⟩; have hbb3 := hbb2.trans hb3))
        have hend : Lib.IsBuilder 77 5 w.heap.size w.heap.size (byteCells (jnK txI xs (k + 1))) w3 := by
          rw [N.out, ← cells_app, ← cells_app]
          exact hbd3
        clear hbd hbd1 hbd2 hbd3 hb hb1 hb2 hb3 hbb1 hbb2
        go_roundw
        case rel => exact ⟨k + 1, by omega, by go_num, hend, hbb3⟩
        case measure => simp [intOf]; omega
      · have N := Lib.hid (jnK_next0 txI xs k k0)
        generalize xs.getD k 0 = x at c0 hx hxl N
        have HX := Lib.hid hx
        clear hx
        have W2 := Lib.hid (show (byteCells (jnK txI xs k)).length + (str (txI x)).size ≤ 1000000 by rw [HJS.out, str_size]; omega)
        go_wp2_with (first
          | (go_at_call 10; (with_reducible refine (txtI_any x HX.out _ (HL.out.below hb)).mono ?_); rintro e w2 ⟨rfl, hb2⟩; have hbd2 := builder_below hbd hb2; have hbb2 := hb.trans (hb2.mono hb.size))
          | (go_at_call 52; (with_reducible refine (writeString_any w.heap.size w.heap.size (byteCells (jnK txI xs k)) (str (txI x)) _ hbd2 W2.out hbb2.size).mono ?_); rintro e w3 ⟨rfl, hbd3, hb3⟩; have hbb3 := hbb2.trans hb3))
        have hend : Lib.IsBuilder 77 5 w.heap.size w.heap.size (byteCells (jnK txI xs (k + 1))) w3 := by
          rw [N.out, ← cells_app]
          exact hbd3
        clear hbd hbd2 hbd3 hb hb2 hb3 hbb2
        go_roundw
        case rel => exact ⟨k + 1, by omega, by go_num, hend, hbb3⟩
        case measure => simp [intOf]; omega
    · obtain rfl : k = n := by omega
      have E := Lib.hid (show jn txI xs = jnK txI xs k by unfold jn; rw [HLEN.out])
      go_wp2_with (go_at_call 53; (with_reducible refine (Tryd.Builder_String_any w.heap.size w.heap.size (jnK txI xs k) _ hbd hb.size).mono ?_); rintro e w1 ⟨rfl, hb1⟩)
      go_ret
      exact ⟨by rw [E.out]; rfl, hb.trans hb1⟩

set_option maxRecDepth 100000 in
theorem listI_any (A : Option Addr) (n c : Nat) (xs : List Int) (w : World) (h : ISl w .i64 A n c xs) (hn : n ≤ 1000) (hr : In64 xs) (hl : Lds w) :
    Calls Tryd.prog 22 #[.slice A n c] w fun e w' => e = .returned (.string (str (jn txI xs))) ∧ Below w.heap.size w w' := by
  have HH := Lib.hid (writeI_any A n c xs w h hn hr hl)
  clear h hr hl
  go_enter Tryd.func22, Tryd.ntmps22
  go_wp2_with (go_at_call 39; (with_reducible refine HH.out.mono ?_); rintro e w1 ⟨rfl, hb1⟩)
  go_ret
  exact ⟨rfl, hb1⟩

set_option maxRecDepth 100000 in
set_option maxHeartbeats 2000000 in
theorem refListI_any (A : Option Addr) (n c : Nat) (xs : List Int) (w : World) (h : ISl w .i64 A n c xs) (hn : n ≤ 1000) (hr : In64 xs) :
    Calls Tryd.prog 23 #[.slice A n c] w fun e w' => e = .returned (.string (str (jn txI xs))) ∧ Below w.heap.size w w' := by
  have hle := h.le
  have hcap := h.cap
  have hlen := h.len
  have H := Lib.hid h
  have HR := Lib.hid hr
  have JL := Lib.hid (fun k (hk : k ≤ xs.length) => jnK_len2 (f := txI) (fun x hx => txI_len (hr x hx)) k hk)
  have HLEN := Lib.hid hlen
  clear h hr hlen
  go_enter Tryd.func23, Tryd.ntmps23
  go_wp2
  go_loopw [3, 4] (fun s i wr => ∃ k : Nat, k ≤ n ∧ i = .int .i64 (k : Int) ∧ s = .string (str (jnK txI xs k)) ∧ Below w.heap.size w wr) (fun _ i _ => n - (intOf i).toNat)
  case atStart => exact ⟨0, by omega, rfl, rfl, Below.refl _ _⟩
  case round =>
    obtain ⟨k, hk, rfl, rfl, hb⟩ := hrel
    have hjl := JL.out k (by rw [HLEN.out]; exact hk)
    by_cases hlt : k < n
    · obtain ⟨b, off, rfl, hB, hc⟩ := H.out.2.2.2 (by omega)
      have c0 : wr.cell? ⟨b, off + k, none⟩ = some (.int .i64 (xs.getD k 0)) := (hb.cell (p := ⟨b, off + k, none⟩) hB).trans (hc k hlt)
      have hx := HR.out _ (getD_mem (xs := xs) (i := k) (by rw [HLEN.out]; exact hlt))
      have hxl := txI_len hx
      clear hc
      by_cases k0 : 0 < k
      · have N := Lib.hid (jnK_next txI xs k k0)
        generalize jnK txI xs k = j at hjl N
        generalize xs.getD k 0 = x at c0 hx hxl N
        have HX := Lib.hid hx
        clear hx
        go_wp2_with (go_at_call 11; (with_reducible refine (refTxtI_any x HX.out _).mono ?_); rintro e w2 ⟨rfl, hb2⟩; have hbb2 := hb.trans (hb2.mono hb.size))
        clear hb hb2
        go_roundw
        case rel => exact ⟨k + 1, by omega, by go_num, by rw [N.out]; simp [str_append], hbb2⟩
        case measure => simp [intOf]; omega
      · have N := Lib.hid (jnK_next0 txI xs k k0)
        generalize jnK txI xs k = j at hjl N
        generalize xs.getD k 0 = x at c0 hx hxl N
        have HX := Lib.hid hx
        clear hx
        go_wp2_with (go_at_call 11; (with_reducible refine (refTxtI_any x HX.out _).mono ?_); rintro e w2 ⟨rfl, hb2⟩; have hbb2 := hb.trans (hb2.mono hb.size))
        clear hb hb2
        go_roundw
        case rel => exact ⟨k + 1, by omega, by go_num, by rw [N.out]; simp [str_append], hbb2⟩
        case measure => simp [intOf]; omega
    · obtain rfl : k = n := by omega
      have E := Lib.hid (show jn txI xs = jnK txI xs k by unfold jn; rw [HLEN.out])
      go_wp2
      go_ret
      exact ⟨by rw [E.out]; rfl, hb⟩

set_option maxRecDepth 100000 in
set_option maxHeartbeats 2000000 in
theorem writeA_any (A : Option Addr) (n c : Nat) (xs : List Int) (w : World) (h : ISl w .u32 A n c xs) (hn : n ≤ 1000) (hr : InU32 xs) (hl : Lds w) :
    Calls Tryd.prog 40 #[.slice A n c, .func (.func 41) #[] #[]] w fun e w' => e = .returned (.string (str (jn txA xs))) ∧ Below w.heap.size w w' := by
  have hle := h.le
  have hcap := h.cap
  have hlen := h.len
  have HL := Lib.hid hl
  have H := Lib.hid h
  have HR := Lib.hid hr
  have JL := Lib.hid (fun k (hk : k ≤ xs.length) => jnK_len2 (f := txA) (fun x hx => txA_len (hr x hx)) k hk)
  have HLEN := Lib.hid hlen
  have B0 := Lib.hid (Lib.fresh_isBuilder 77 5 w)
  clear h hr hl hlen
  go_enter Tryd.func40, Tryd.ntmps40
  go_wp2
  go_loopw [10] (fun i wr => ∃ k : Nat, k ≤ n ∧ i = .int .i64 (k : Int) ∧ Lib.IsBuilder 77 5 w.heap.size w.heap.size (byteCells (jnK txA xs k)) wr ∧ Below w.heap.size w wr) (fun i _ => n - (intOf i).toNat)
  case atStart => exact ⟨0, by omega, rfl, B0.out, (Below.refl _ _).alloc (Nat.le_refl _) _⟩
  case round =>
    obtain ⟨k, hk, rfl, hbd, hb⟩ := hrel
    have hjl := JL.out k (by rw [HLEN.out]; exact hk)
    have hjs : (byteCells (jnK txA xs k)).length = (jnK txA xs k).length := Lib.byteCells_length _
    have HJS := Lib.hid hjs
    clear hjs
    by_cases hlt : k < n
    · obtain ⟨b, off, rfl, hB, hc⟩ := H.out.2.2.2 (by omega)
      have c0 : wr.cell? ⟨b, off + k, none⟩ = some (.int .u32 (xs.getD k 0)) := (hb.cell (p := ⟨b, off + k, none⟩) hB).trans (hc k hlt)
      have hx := HR.out _ (getD_mem (xs := xs) (i := k) (by rw [HLEN.out]; exact hlt))
      have hxl := txA_len hx
      clear hc
      by_cases k0 : 0 < k
      · have N := Lib.hid (jnK_next txA xs k k0)
        generalize xs.getD k 0 = x at c0 hx hxl N
        have HX := Lib.hid hx
        clear hx
        have W1 := Lib.hid (show (byteCells (jnK txA xs k)).length + (⟨#[44]⟩ : ByteArray).size ≤ 1000000 by rw [HJS.out]; have : (⟨#[44]⟩ : ByteArray).size = 1 := rfl; omega)
        have W2 := Lib.hid (show (byteCells (jnK txA xs k) ++ Lib.strCells ⟨#[44]⟩).length + (str (txA x)).size ≤ 1000000 by have e1 := str_size (txA x); have e2 : (⟨#[44]⟩ : ByteArray).size = 1 := rfl; rw [List.length_append, Lib.strCells_length, e1, e2, HJS.out]; omega)
        go_wp2_with (first
          | (go_at_call 52; (with_reducible refine (writeString_any w.heap.size w.heap.size (byteCells (jnK txA xs k)) ⟨#[44]⟩ _ hbd W1.out hb.size).mono ?_); rintro e w1 ⟨rfl, hbd1, hb1⟩; have hbb1 := hb.trans hb1)
          | (go_at_call 41; (with_reducible refine (txtA_any x HX.out _ (HL.out.below hbb1)).mono ?_); rintro e w2 ⟨rfl, hb2⟩; have hbd2 := builder_below hbd1 hb2; have hbb2 := hbb1.trans (hb2.mono hbb1.size))
          | (go_at_call 52; (with_reducible refine (writeString_any w.heap.size w.heap.size (byteCells (jnK txA xs k) ++ Lib.strCells ⟨#[44]⟩) (str (txA x)) _ hbd2 W2.out hbb2.size).mono ?_); rintro e w3 ⟨rfl, hbd3, hb3⟩; have hbb3 := hbb2.trans hb3))
        have hend : Lib.IsBuilder 77 5 w.heap.size w.heap.size (byteCells (jnK txA xs (k + 1))) w3 := by
          rw [N.out, ← cells_app, ← cells_app]
          exact hbd3
        clear hbd hbd1 hbd2 hbd3 hb hb1 hb2 hb3 hbb1 hbb2
        go_roundw
        case rel => exact ⟨k + 1, by omega, by go_num, hend, hbb3⟩
        case measure => simp [intOf]; omega
      · have N := Lib.hid (jnK_next0 txA xs k k0)
        generalize xs.getD k 0 = x at c0 hx hxl N
        have HX := Lib.hid hx
        clear hx
        have W2 := Lib.hid (show (byteCells (jnK txA xs k)).length + (str (txA x)).size ≤ 1000000 by rw [HJS.out, str_size]; omega)
        go_wp2_with (first
          | (go_at_call 41; (with_reducible refine (txtA_any x HX.out _ (HL.out.below hb)).mono ?_); rintro e w2 ⟨rfl, hb2⟩; have hbd2 := builder_below hbd hb2; have hbb2 := hb.trans (hb2.mono hb.size))
          | (go_at_call 52; (with_reducible refine (writeString_any w.heap.size w.heap.size (byteCells (jnK txA xs k)) (str (txA x)) _ hbd2 W2.out hbb2.size).mono ?_); rintro e w3 ⟨rfl, hbd3, hb3⟩; have hbb3 := hbb2.trans hb3))
        have hend : Lib.IsBuilder 77 5 w.heap.size w.heap.size (byteCells (jnK txA xs (k + 1))) w3 := by
          rw [N.out, ← cells_app]
          exact hbd3
        clear hbd hbd2 hbd3 hb hb2 hb3 hbb2
        go_roundw
        case rel => exact ⟨k + 1, by omega, by go_num, hend, hbb3⟩
        case measure => simp [intOf]; omega
    · obtain rfl : k = n := by omega
      have E := Lib.hid (show jn txA xs = jnK txA xs k by unfold jn; rw [HLEN.out])
      go_wp2_with (go_at_call 53; (with_reducible refine (Tryd.Builder_String_any w.heap.size w.heap.size (jnK txA xs k) _ hbd hb.size).mono ?_); rintro e w1 ⟨rfl, hb1⟩)
      go_ret
      exact ⟨by rw [E.out]; rfl, hb.trans hb1⟩

set_option maxRecDepth 100000 in
theorem listA_any (A : Option Addr) (n c : Nat) (xs : List Int) (w : World) (h : ISl w .u32 A n c xs) (hn : n ≤ 1000) (hr : InU32 xs) (hl : Lds w) :
    Calls Tryd.prog 24 #[.slice A n c] w fun e w' => e = .returned (.string (str (jn txA xs))) ∧ Below w.heap.size w w' := by
  have HH := Lib.hid (writeA_any A n c xs w h hn hr hl)
  clear h hr hl
  go_enter Tryd.func24, Tryd.ntmps24
  go_wp2_with (go_at_call 40; (with_reducible refine HH.out.mono ?_); rintro e w1 ⟨rfl, hb1⟩)
  go_ret
  exact ⟨rfl, hb1⟩

set_option maxRecDepth 100000 in
set_option maxHeartbeats 2000000 in
theorem refListA_any (A : Option Addr) (n c : Nat) (xs : List Int) (w : World) (h : ISl w .u32 A n c xs) (hn : n ≤ 1000) (hr : InU32 xs) :
    Calls Tryd.prog 25 #[.slice A n c] w fun e w' => e = .returned (.string (str (jn txA xs))) ∧ Below w.heap.size w w' := by
  have hle := h.le
  have hcap := h.cap
  have hlen := h.len
  have H := Lib.hid h
  have HR := Lib.hid hr
  have JL := Lib.hid (fun k (hk : k ≤ xs.length) => jnK_len2 (f := txA) (fun x hx => txA_len (hr x hx)) k hk)
  have HLEN := Lib.hid hlen
  clear h hr hlen
  go_enter Tryd.func25, Tryd.ntmps25
  go_wp2
  go_loopw [3, 4] (fun s i wr => ∃ k : Nat, k ≤ n ∧ i = .int .i64 (k : Int) ∧ s = .string (str (jnK txA xs k)) ∧ Below w.heap.size w wr) (fun _ i _ => n - (intOf i).toNat)
  case atStart => exact ⟨0, by omega, rfl, rfl, Below.refl _ _⟩
  case round =>
    obtain ⟨k, hk, rfl, rfl, hb⟩ := hrel
    have hjl := JL.out k (by rw [HLEN.out]; exact hk)
    by_cases hlt : k < n
    · obtain ⟨b, off, rfl, hB, hc⟩ := H.out.2.2.2 (by omega)
      have c0 : wr.cell? ⟨b, off + k, none⟩ = some (.int .u32 (xs.getD k 0)) := (hb.cell (p := ⟨b, off + k, none⟩) hB).trans (hc k hlt)
      have hx := HR.out _ (getD_mem (xs := xs) (i := k) (by rw [HLEN.out]; exact hlt))
      have hxl := txA_len hx
      clear hc
      by_cases k0 : 0 < k
      · have N := Lib.hid (jnK_next txA xs k k0)
        generalize jnK txA xs k = j at hjl N
        generalize xs.getD k 0 = x at c0 hx hxl N
        have HX := Lib.hid hx
        clear hx
        go_wp2_with (go_at_call 42; (with_reducible refine (refTxtA_any x HX.out _).mono ?_); rintro e w2 ⟨rfl, hb2⟩; have hbb2 := hb.trans (hb2.mono hb.size))
        clear hb hb2
        go_roundw
        case rel => exact ⟨k + 1, by omega, by go_num, by rw [N.out]; simp [str_append], hbb2⟩
        case measure => simp [intOf]; omega
      · have N := Lib.hid (jnK_next0 txA xs k k0)
        generalize jnK txA xs k = j at hjl N
        generalize xs.getD k 0 = x at c0 hx hxl N
        have HX := Lib.hid hx
        clear hx
        go_wp2_with (go_at_call 42; (with_reducible refine (refTxtA_any x HX.out _).mono ?_); rintro e w2 ⟨rfl, hb2⟩; have hbb2 := hb.trans (hb2.mono hb.size))
        clear hb hb2
        go_roundw
        case rel => exact ⟨k + 1, by omega, by go_num, by rw [N.out]; simp [str_append], hbb2⟩
        case measure => simp [intOf]; omega
    · obtain rfl : k = n := by omega
      have E := Lib.hid (show jn txA xs = jnK txA xs k by unfold jn; rw [HLEN.out])
      go_wp2
      go_ret
      exact ⟨by rw [E.out]; rfl, hb⟩
end Go.Proofs.YtjmbgfhjdmoflaaDoor
