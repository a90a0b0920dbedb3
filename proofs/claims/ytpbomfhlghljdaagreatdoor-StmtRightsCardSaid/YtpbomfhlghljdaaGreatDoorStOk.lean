/- A line that is read is a small one; one field of a line's box stored; the contract of palinglaw11.Great. -/
import Derived.Test.YtpbomfhlghljdaaGreatDoorStOwn
import Derived.WalkMore
namespace Go.Proofs.YtpbomfhlghljdaaGreatDoor
open Go.RowKit

theorem LRead.below {w w' : World} {L : LV} {s1 s2 s3 s4 : SlV} (h : LRead w L s1 s2 s3 s4) (b : Below w.heap.size w w') : LRead w' L s1 s2 s3 s4 := ⟨h.1.below b, h.2.1.below b, h.2.2.1.below b, h.2.2.2.below b⟩
theorem nm_len {s : List UInt8} (h : nmB s = true) : s.length ≤ 300 := by
  have := ((nmB_iff s).1 h).2.1
  rw [str_size] at this
  omega
theorem ris_len {xs : List Int} {lo hi : Int} (h : risIn xs lo hi = true) : xs.length ≤ 16 := by
  unfold risIn at h
  rw [Bool.and_eq_true] at h
  exact ((risB_iff xs).1 h.1).2.1
theorem ls_len {hi : Int} {xs : List Int} (h : LsOk hi xs) : xs.length ≤ 16 := by
  rcases h with rfl | h
  · simp
  · exact ris_len h
theorem rd_row {row : Int} {L : LV} (h : RdK row L) : L.row = row ∧ 1 ≤ L.kind ∧ L.kind ≤ 9 := by
  rcases h with h | ⟨h, _⟩ | h | h | h | h | h | h | h
  · obtain ⟨s, a, m, rfl, _⟩ := h; exact ⟨rfl, show (1 : Int) ≤ 1 by decide, show (1 : Int) ≤ 9 by decide⟩
  · obtain ⟨s, p, c, v, t, rfl, _⟩ := h; exact ⟨rfl, show (1 : Int) ≤ 2 by decide, show (2 : Int) ≤ 9 by decide⟩
  · obtain ⟨s, p, q, r, rfl, _⟩ := h; exact ⟨rfl, show (1 : Int) ≤ 3 by decide, show (3 : Int) ≤ 9 by decide⟩
  · obtain ⟨s, v, m, p, rfl, _⟩ := h; exact ⟨rfl, show (1 : Int) ≤ 4 by decide, show (4 : Int) ≤ 9 by decide⟩
  · obtain ⟨s, a, rfl, _⟩ := h; exact ⟨rfl, show (1 : Int) ≤ 5 by decide, show (5 : Int) ≤ 9 by decide⟩
  · obtain ⟨s, v, a, rfl, _⟩ := h; exact ⟨rfl, show (1 : Int) ≤ 6 by decide, show (6 : Int) ≤ 9 by decide⟩
  · obtain ⟨s, a, x, rfl, _⟩ := h; exact ⟨rfl, show (1 : Int) ≤ 7 by decide, show (7 : Int) ≤ 9 by decide⟩
  · obtain ⟨s, n, x, y, rfl, _⟩ := h; exact ⟨rfl, show (1 : Int) ≤ 8 by decide, show (8 : Int) ≤ 9 by decide⟩
  · obtain ⟨s, v, n, a, b, rfl, _⟩ := h; exact ⟨rfl, show (1 : Int) ≤ 9 by decide, show (9 : Int) ≤ 9 by decide⟩
theorem rd_ok {row : Int} {L : LV} (h : RdK row L) (r0 : -9223372036854775808 ≤ row) (r1 : row ≤ 9223372036854775807) : LvOk L := by
  have e0 : ([] : List UInt8).length ≤ 300 := by decide
  have e1 : ([] : List Int).length ≤ 16 := by decide
  rcases h with h | ⟨h, _⟩ | h | h | h | h | h | h | h
  · obtain ⟨s, a, m, rfl, hs, ha, hm⟩ := h
    exact ⟨⟨nm_len hs, e0, e0, e0, e0⟩, ⟨e1, e1, e1, e1⟩, ⟨⟨r0, r1⟩, (show (0 : Int) ≤ 1 ∧ (1 : Int) ≤ 18 by decide), ⟨hm.1, hm.2.1⟩, (show (0 : Int) ≤ 0 ∧ (0 : Int) ≤ 4294967295 by decide), (show (0 : Int) ≤ 0 ∧ (0 : Int) ≤ 32 by decide), (show (0 : Int) ≤ 0 ∧ (0 : Int) ≤ 4095 by decide), ⟨by have := ha.1; show 0 ≤ a; omega, by have := ha.2; show a ≤ _; omega⟩, (show (0 : Int) ≤ 0 ∧ (0 : Int) ≤ 65535 by decide)⟩⟩
  · obtain ⟨s, p, c, v, t, rfl, hs, hp, hc, hv, ht⟩ := h
    exact ⟨⟨nm_len hs, nm_len hp, e0, e0, e0⟩, ⟨ls_len ht, e1, e1, e1⟩, ⟨⟨r0, r1⟩, (show (0 : Int) ≤ 2 ∧ (2 : Int) ≤ 18 by decide), (show (0 : Int) ≤ 0 ∧ (0 : Int) < 281474976710656 by decide), (show (0 : Int) ≤ 0 ∧ (0 : Int) ≤ 4294967295 by decide), (show (0 : Int) ≤ 0 ∧ (0 : Int) ≤ 32 by decide), ⟨by have := hv.1; show 0 ≤ v; omega, by have := hv.2; show v ≤ _; omega⟩, (show (0 : Int) ≤ 0 ∧ (0 : Int) ≤ 16777216 by decide), ⟨by have := hc.1; show 0 ≤ c; omega, by have := hc.2; show c ≤ _; omega⟩⟩⟩
  · obtain ⟨s, p, q, r, rfl, hs, hp, hq, hr⟩ := h
    exact ⟨⟨nm_len hs, nm_len hp, nm_len hq, nm_len hr, e0⟩, ⟨e1, e1, e1, e1⟩, ⟨⟨r0, r1⟩, (show (0 : Int) ≤ 3 ∧ (3 : Int) ≤ 18 by decide), (show (0 : Int) ≤ 0 ∧ (0 : Int) < 281474976710656 by decide), (show (0 : Int) ≤ 0 ∧ (0 : Int) ≤ 4294967295 by decide), (show (0 : Int) ≤ 0 ∧ (0 : Int) ≤ 32 by decide), (show (0 : Int) ≤ 0 ∧ (0 : Int) ≤ 4095 by decide), (show (0 : Int) ≤ 0 ∧ (0 : Int) ≤ 16777216 by decide), (show (0 : Int) ≤ 0 ∧ (0 : Int) ≤ 65535 by decide)⟩⟩
  · obtain ⟨s, v, m, p, rfl, hs, hv, hm, hp⟩ := h
    exact ⟨⟨nm_len hs, nm_len hp, e0, e0, e0⟩, ⟨e1, e1, e1, e1⟩, ⟨⟨r0, r1⟩, (show (0 : Int) ≤ 4 ∧ (4 : Int) ≤ 18 by decide), ⟨hm.1, hm.2.1⟩, (show (0 : Int) ≤ 0 ∧ (0 : Int) ≤ 4294967295 by decide), (show (0 : Int) ≤ 0 ∧ (0 : Int) ≤ 32 by decide), ⟨by have := hv.1; show 0 ≤ v; omega, by have := hv.2; show v ≤ _; omega⟩, (show (0 : Int) ≤ 0 ∧ (0 : Int) ≤ 16777216 by decide), (show (0 : Int) ≤ 0 ∧ (0 : Int) ≤ 65535 by decide)⟩⟩
  · obtain ⟨s, a, rfl, hs, ha⟩ := h
    exact ⟨⟨nm_len hs, e0, e0, e0, e0⟩, ⟨e1, e1, e1, e1⟩, ⟨⟨r0, r1⟩, (show (0 : Int) ≤ 5 ∧ (5 : Int) ≤ 18 by decide), (show (0 : Int) ≤ 0 ∧ (0 : Int) < 281474976710656 by decide), ⟨by have := ha.1; show 0 ≤ a; omega, by have := ha.2; show a ≤ _; omega⟩, (show (0 : Int) ≤ 0 ∧ (0 : Int) ≤ 32 by decide), (show (0 : Int) ≤ 0 ∧ (0 : Int) ≤ 4095 by decide), (show (0 : Int) ≤ 0 ∧ (0 : Int) ≤ 16777216 by decide), (show (0 : Int) ≤ 0 ∧ (0 : Int) ≤ 65535 by decide)⟩⟩
  · obtain ⟨s, v, a, rfl, hs, hv, ha⟩ := h
    exact ⟨⟨nm_len hs, e0, e0, e0, e0⟩, ⟨e1, e1, e1, e1⟩, ⟨⟨r0, r1⟩, (show (0 : Int) ≤ 6 ∧ (6 : Int) ≤ 18 by decide), (show (0 : Int) ≤ 0 ∧ (0 : Int) < 281474976710656 by decide), (show (0 : Int) ≤ 0 ∧ (0 : Int) ≤ 4294967295 by decide), (show (0 : Int) ≤ 0 ∧ (0 : Int) ≤ 32 by decide), ⟨by have := hv.1; show 0 ≤ v; omega, by have := hv.2; show v ≤ _; omega⟩, ⟨by have := ha.1; show 0 ≤ a; omega, by have := ha.2; show a ≤ _; omega⟩, (show (0 : Int) ≤ 0 ∧ (0 : Int) ≤ 65535 by decide)⟩⟩
  · obtain ⟨s, a, x, rfl, hs, ha, hx⟩ := h
    exact ⟨⟨nm_len hs, e0, e0, e0, e0⟩, ⟨e1, e1, e1, ris_len hx.1⟩, ⟨⟨r0, r1⟩, (show (0 : Int) ≤ 7 ∧ (7 : Int) ≤ 18 by decide), (show (0 : Int) ≤ 0 ∧ (0 : Int) < 281474976710656 by decide), (show (0 : Int) ≤ 0 ∧ (0 : Int) ≤ 4294967295 by decide), (show (0 : Int) ≤ 0 ∧ (0 : Int) ≤ 32 by decide), (show (0 : Int) ≤ 0 ∧ (0 : Int) ≤ 4095 by decide), ⟨by have := ha.1; show 0 ≤ a; omega, by have := ha.2; show a ≤ _; omega⟩, (show (0 : Int) ≤ 0 ∧ (0 : Int) ≤ 65535 by decide)⟩⟩
  · obtain ⟨s, n, x, y, rfl, hs, hn, hx, hy⟩ := h
    exact ⟨⟨nm_len hs, e0, e0, e0, nm_len hn⟩, ⟨e1, ls_len hx, ls_len hy, e1⟩, ⟨⟨r0, r1⟩, (show (0 : Int) ≤ 8 ∧ (8 : Int) ≤ 18 by decide), (show (0 : Int) ≤ 0 ∧ (0 : Int) < 281474976710656 by decide), (show (0 : Int) ≤ 0 ∧ (0 : Int) ≤ 4294967295 by decide), (show (0 : Int) ≤ 0 ∧ (0 : Int) ≤ 32 by decide), (show (0 : Int) ≤ 0 ∧ (0 : Int) ≤ 4095 by decide), (show (0 : Int) ≤ 0 ∧ (0 : Int) ≤ 16777216 by decide), (show (0 : Int) ≤ 0 ∧ (0 : Int) ≤ 65535 by decide)⟩⟩
  · obtain ⟨s, v, n, a, b, rfl, hs, hv, hn, hab⟩ := h
    exact ⟨⟨nm_len hs, e0, e0, e0, nm_len hn⟩, ⟨e1, e1, e1, e1⟩, ⟨⟨r0, r1⟩, (show (0 : Int) ≤ 9 ∧ (9 : Int) ≤ 18 by decide), (show (0 : Int) ≤ 0 ∧ (0 : Int) < 281474976710656 by decide), ⟨hab.2.1.1, hab.2.1.2⟩, ⟨hab.2.2.1, hab.2.2.2⟩, ⟨by have := hv.1; show 0 ≤ v; omega, by have := hv.2; show v ≤ _; omega⟩, (show (0 : Int) ≤ 0 ∧ (0 : Int) ≤ 16777216 by decide), (show (0 : Int) ≤ 0 ∧ (0 : Int) ≤ 65535 by decide)⟩⟩
theorem SSl.of_any {w : World} {a : Option Addr} {len cap : Nat} {ss : List ByteArray} (h : IsRowS w a len cap ss) : ∃ l : List (List UInt8), SSl w a len cap l := by
  have hM : ∀ s ∈ ss, s.size ≤ maxLen := by
    rcases h with ⟨_, _, _, rfl⟩ | ⟨_, _, _, _, _, _, h6⟩
    · intro s hs; cases hs
    · exact h6
  obtain ⟨l, h1, _⟩ := SSl.of_row h hM
  exact ⟨l, h1⟩
theorem zero_ok : LvOk LV.zero := ⟨by decide, by decide, by decide⟩
theorem BoxF.to_row {w : World} {q : Nat} {L : LV} {s1 s2 s3 s4 : SlV} (h : BoxF w q 17 (lc L s1 s2 s3 s4)) (x : Int) : BoxF (w.setCell ⟨q, 0, none⟩ (.int .i64 x)) q 17 (lc { L with row := x } s1 s2 s3 s4) :=
  (h.set 0 (by omega) _).is (fun i hi => match i, hi with | 0, _ | 1, _ | 2, _ | 3, _ | 4, _ | 5, _ | 6, _ | 7, _ | 8, _ | 9, _ | 10, _ | 11, _ | 12, _ | 13, _ | 14, _ | 15, _ | 16, _ => rfl | i + 17, h => absurd h (by omega))
theorem BoxF.to_kind {w : World} {q : Nat} {L : LV} {s1 s2 s3 s4 : SlV} (h : BoxF w q 17 (lc L s1 s2 s3 s4)) (x : Int) : BoxF (w.setCell ⟨q, 1, none⟩ (.int .i64 x)) q 17 (lc { L with kind := x } s1 s2 s3 s4) :=
  (h.set 1 (by omega) _).is (fun i hi => match i, hi with | 0, _ | 1, _ | 2, _ | 3, _ | 4, _ | 5, _ | 6, _ | 7, _ | 8, _ | 9, _ | 10, _ | 11, _ | 12, _ | 13, _ | 14, _ | 15, _ | 16, _ => rfl | i + 17, h => absurd h (by omega))
theorem BoxF.to_vlan {w : World} {q : Nat} {L : LV} {s1 s2 s3 s4 : SlV} (h : BoxF w q 17 (lc L s1 s2 s3 s4)) (x : Int) : BoxF (w.setCell ⟨q, 10, none⟩ (.int .i64 x)) q 17 (lc { L with vlan := x } s1 s2 s3 s4) :=
  (h.set 10 (by omega) _).is (fun i hi => match i, hi with | 0, _ | 1, _ | 2, _ | 3, _ | 4, _ | 5, _ | 6, _ | 7, _ | 8, _ | 9, _ | 10, _ | 11, _ | 12, _ | 13, _ | 14, _ | 15, _ | 16, _ => rfl | i + 17, h => absurd h (by omega))
theorem BoxF.to_num {w : World} {q : Nat} {L : LV} {s1 s2 s3 s4 : SlV} (h : BoxF w q 17 (lc L s1 s2 s3 s4)) (x : Int) : BoxF (w.setCell ⟨q, 11, none⟩ (.int .i64 x)) q 17 (lc { L with num := x } s1 s2 s3 s4) :=
  (h.set 11 (by omega) _).is (fun i hi => match i, hi with | 0, _ | 1, _ | 2, _ | 3, _ | 4, _ | 5, _ | 6, _ | 7, _ | 8, _ | 9, _ | 10, _ | 11, _ | 12, _ | 13, _ | 14, _ | 15, _ | 16, _ => rfl | i + 17, h => absurd h (by omega))

/-- are words too many, or too long? -/
def greatB (ws : List (List UInt8)) : Bool := decide (20 < ws.length) || ws.any (fun p => decide (300 < p.length))
theorem great_no {ws : List (List UInt8)} (h : greatB ws = false) : ws.length ≤ 20 ∧ ∀ p ∈ ws, p.length ≤ 300 := by
  unfold greatB at h
  rw [Bool.or_eq_false_iff, decide_eq_false_iff_not, List.any_eq_false] at h
  refine ⟨by omega, fun p hp => ?_⟩
  have := h.2 p hp
  simp at this
  exact this
set_option maxRecDepth 20000 in
theorem great_any (A : Option Addr) (n c : Nat) (ws : List (List UInt8)) (w : World) (h : SSl w A n c ws) : Calls Tryz.prog 5 #[.slice A n c] w fun e w' => e = .returned (.bool (greatB ws)) ∧ Below w.heap.size w w' := by
  have hl := h.len
  by_cases h20 : 20 < n
  · have E := Lib.hid (show greatB ws = true by unfold greatB; rw [decide_eq_true (by omega)]; rfl)
    have i0 : (20 : Int) < (n : Int) := by omega
    clear h hl
    go_enter Tryz.func5, Tryz.ntmps5
    go_wp2
    go_ret
    exact ⟨by rw [E.out]; rfl, Below.refl _ _⟩
  · have E := Lib.hid (show greatB ws = ws.any (fun p => decide (300 < p.length)) by unfold greatB; rw [decide_eq_false (by omega)]; rfl)
    have i0 : ¬ (20 : Int) < (n : Int) := by omega
    have H := Lib.hid h
    have HL := Lib.hid hl
    have hcap := h.cap
    have hle := h.le
    clear h hl h20
    go_enter Tryz.func5, Tryz.ntmps5
    go_wp2
    go_loopw [3] (fun i wr => ∃ k q : Nat, i = .int .i64 k ∧ wr = w.drewN q ∧ k ≤ n ∧ (ws.take k).any (fun p => decide (300 < p.length)) = false) (fun i _ => match i with | .int _ x => (n - x).toNat | _ => 0)
    case atStart => exact ⟨0, 0, rfl, rfl, by omega, by simp⟩
    case round =>
      obtain ⟨k, q, rfl, rfl, hk, hf⟩ := hrel
      have HF := Lib.hid hf
      clear hf
      by_cases hlt : k < n
      · obtain ⟨b0, o0, rfl, hb0, hc0⟩ := H.out.at_ (by omega)
        have c0 := hc0 k hlt
        have hq : k < ws.length := by rw [HL.out]; exact hlt
        have hg : ws.getD k [] = ws[k] := by simp [List.getD, hq]
        have T1 := Lib.hid (show (ws.take (k + 1)).any (fun p => decide (300 < p.length)) = decide (300 < (ws.getD k []).length) by
          rw [List.take_succ_eq_append_getElem hq, List.any_append, HF.out, hg]
          simp)
        have T2 := Lib.hid (show 300 < (ws.getD k []).length → ws.any (fun p => decide (300 < p.length)) = true from fun e => by
          rw [List.any_eq_true]
          exact ⟨ws[k], List.getElem_mem hq, by rw [← hg]; simpa using e⟩)
        have i1 : (k : Int) < (n : Int) := by omega
        generalize ws.getD k [] = x at *
        have sx : (str x).size = x.length := str_size x
        clear hc0 hg
        by_cases e : 300 < x.length
        · have R := Lib.hid (show greatB ws = true by rw [E.out]; exact T2.out e)
          have i2 : (300 : Int) < (x.length : Int) := by omega
          clear e
          go_wp2
          go_ret
          exact ⟨by rw [R.out]; rfl, below_drewN (Below.refl _ _) _⟩
        · have R := Lib.hid (show (ws.take (k + 1)).any (fun p => decide (300 < p.length)) = false by rw [T1.out]; simpa using e)
          have i2 : ¬ (300 : Int) < (x.length : Int) := by omega
          clear e
          go_wp2
          go_roundw
          case rel => exact ⟨k + 1, q, by simp, rfl, by omega, R.out⟩
          case measure => simp only []; omega
      · have R := Lib.hid (show greatB ws = false by rw [E.out, ← HF.out, List.take_of_length_le (by rw [HL.out]; omega)])
        go_wp2
        go_ret
        exact ⟨by rw [R.out]; rfl, below_drewN (Below.refl _ _) _⟩
end Go.Proofs.YtpbomfhlghljdaaGreatDoor
