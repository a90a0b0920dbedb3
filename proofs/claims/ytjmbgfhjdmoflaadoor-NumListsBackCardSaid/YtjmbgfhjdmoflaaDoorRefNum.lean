/- The contract of palingref02.number: a number's digits. -/
import Derived.Test.YtjmbgfhjdmoflaaDoorKeep
import Derived.Test.YtjmbgfhjdmoflaaDoorAddrRead
namespace Go.Proofs.YtjmbgfhjdmoflaaDoor
open Go.RowKit
open Go.Lib (decDigits)

/-- a text of one byte, out of a slice that was just built -/
theorem run_string_one (w : World) (c : Int) (E : TypeId) :
    (convert 65 9 (.slice (some ⟨w.heap.size, 0, none⟩) 1 1)).run Tryd.prog (w.alloc (.cells #[.int .u8 c] E)) = .ok (.string (str [UInt8.ofNat c.toNat])) (w.alloc (.cells #[.int .u8 c] E)) := by
  rw [run_convert_bytes_string _ _ _ _ _ _ _ Tryd.underlying65 Tryd.underlying5 Tryd.underlying9]
  have hl : (loadCells ⟨w.heap.size, 0, none⟩ 1).run Tryd.prog (w.alloc (.cells #[.int .u8 c] E)) = .ok ([c].map (Value.int .u8)).toArray (w.alloc (.cells #[.int .u8 c] E)) :=
    run_loadCells_list (P := Tryd.prog) (w := w.alloc (.cells #[.int .u8 c] E)) ⟨w.heap.size, 0, none⟩ [Value.int .u8 c] (fun j v hj => by
      match j, hj with
      | 0, hj =>
        have : Value.int .u8 c = v := by simpa using hj
        subst this
        simp [Addr.add]
      | j + 1, hj => simp at hj)
  rw [run_bytesToString _ _ _ _ [c] hl]
  rfl
theorem dec_len18 {u : Nat} (h : u < 1000000000000000000) : (decDigits u).length ≤ 18 := dec_len 18 (by omega) h

theorem plus_ofNat (x : Nat) : (48 : UInt8) + UInt8.ofNat x = UInt8.ofNat (48 + x) := by simp
set_option maxRecDepth 100000 in
set_option maxHeartbeats 1000000 in
theorem refNumber_any (n : Nat) (hn : n < 1000000000000000000) (w : World) :
    Calls Tryd.prog 55 #[.int .i64 (n : Int)] w fun e w' => e = .returned (.string (str (decDigits n))) ∧ Below w.heap.size w w' := by
  have S1 := run_string_one
  have HN := Lib.hid hn
  go_enter Tryd.func55, Tryd.ntmps55
  go_wp2
  go_loopw [0, 3] (fun v s wr => ∃ (m : Nat) (t : List UInt8), v = .int .i64 (m : Int) ∧ s = .string (str t) ∧ decDigits n = decDigits m ++ t ∧ m ≤ n ∧ Below w.heap.size w wr) (fun v _ _ => (intOf v).toNat)
  case atStart => exact ⟨n, [], rfl, rfl, by simp, Nat.le_refl _, Below.refl _ _⟩
  case round =>
    obtain ⟨m, t, rfl, rfl, hd, hm, hb⟩ := hrel
    have ht : t.length ≤ 18 := by
      have h1 := congrArg List.length hd
      have h2 := dec_len18 HN.out
      simp only [List.length_append] at h1
      omega
    have HD := Lib.hid hd
    clear hd
    have hm18 : m < 1000000000000000000 := Nat.lt_of_le_of_lt hm HN.out
    by_cases h10 : 10 ≤ m
    · have HE := Lib.hid (show decDigits m = decDigits (m / 10) ++ [UInt8.ofNat (48 + m % 10)] from dec_big (by omega))
      go_wp2
      go_roundw
      case rel => exact ⟨m / 10, [48 + UInt8.ofNat (m % 10)] ++ t, by go_num, by rw [str_append], by rw [HD.out, HE.out, plus_ofNat, List.append_assoc], by omega, hb.alloc hb.size _⟩
      case measure => simp [intOf]; omega
    · have HE := Lib.hid (show decDigits n = [48 + UInt8.ofNat m] ++ t by rw [HD.out, dec_small (by omega), plus_ofNat])
      go_wp2
      go_ret
      exact ⟨by rw [HE.out, ← str_append]; rfl, hb.alloc hb.size _⟩
end Go.Proofs.YtjmbgfhjdmoflaaDoor
