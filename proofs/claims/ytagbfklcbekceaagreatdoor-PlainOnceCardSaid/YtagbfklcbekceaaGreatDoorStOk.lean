/- A line that is read is a small one; one field of a line's box stored; the contract of palinglaw11.Great. -/
import Derived.Test.YtagbfklcbekceaaGreatDoorStOwn
import Derived.WalkMore
namespace Go.Proofs.YtagbfklcbekceaaGreatDoor
open Go.RowKit

theorem nm_len {s : List UInt8} (h : nmB s = true) : s.length ≤ 300 := by
  have := ((nmB_iff s).1 h).2.1
  rw [str_size] at this
  omega
theorem ris_len {xs : List Int} {lo hi : Int} (h : risIn xs lo hi = true) : xs.length ≤ 16 := by
  unfold risIn at h
  rw [Bool.and_eq_true] at h
  exact ((risB_iff xs).1 h.1).2.1
theorem ls_len {hi : Int} {xs : List Int} (h : LsOk hi xs) : xs.length ≤ 16 := by
  rcases h with rfl | h
  · simp
  · exact ris_len h
theorem rd_row {row : Int} {L : LV} (h : RdK row L) : L.row = row ∧ 1 ≤ L.kind ∧ L.kind ≤ 9 := by
  rcases h with h | ⟨h, _⟩ | h | h | h | h | h | h | h
  · obtain ⟨s, a, m, rfl, _⟩ := h; exact ⟨rfl, show (1 : Int) ≤ 1 by decide, show (1 : Int) ≤ 9 by decide⟩
  · obtain ⟨s, p, c, v, t, rfl, _⟩ := h; exact ⟨rfl, show (1 : Int) ≤ 2 by decide, show (2 : Int) ≤ 9 by decide⟩
  · obtain ⟨s, p, q, r, rfl, _⟩ := h; exact ⟨rfl, show (1 : Int) ≤ 3 by decide, show (3 : Int) ≤ 9 by decide⟩
  · obtain ⟨s, v, m, p, rfl, _⟩ := h; exact ⟨rfl, show (1 : Int) ≤ 4 by decide, show (4 : Int) ≤ 9 by decide⟩
  · obtain ⟨s, a, rfl, _⟩ := h; exact ⟨rfl, show (1 : Int) ≤ 5 by decide, show (5 : Int) ≤ 9 by decide⟩
  · obtain ⟨s, v, a, rfl, _⟩ := h; exact ⟨rfl, show (1 : Int) ≤ 6 by decide, show (6 : Int) ≤ 9 by decide⟩
  · obtain ⟨s, a, x, rfl, _⟩ := h; exact ⟨rfl, show (1 : Int) ≤ 7 by decide, show (7 : Int) ≤ 9 by decide⟩
  · obtain ⟨s, n, x, y, rfl, _⟩ := h; exact ⟨rfl, show (1 : Int) ≤ 8 by decide, show (8 : Int) ≤ 9 by decide⟩
  · obtain ⟨s, v, n, a, b, rfl, _⟩ := h; exact ⟨rfl, show (1 : Int) ≤ 9 by decide, show (9 : Int) ≤ 9 by decide⟩
theorem rd_ok {row : Int} {L : LV} (h : RdK row L) (r0 : -9223372036854775808 ≤ row) (r1 : row ≤ 9223372036854775807) : LvOk L := by
  have e0 : ([] : List UInt8).length ≤ 300 := by decide
  have e1 : ([] : List Int).length ≤ 16 := by decide
  rcases h with h | ⟨h, _⟩ | h | h | h | h | h | h | h
  · obtain ⟨s, a, m, rfl, hs, ha, hm⟩ := h
    exact ⟨⟨nm_len hs, e0, e0, e0, e0⟩, ⟨e1, e1, e1, e1⟩, ⟨⟨r0, r1⟩, (show (0 : Int) ≤ 1 ∧ (1 : Int) ≤ 18 by decide), ⟨hm.1, hm.2.1⟩, (show (0 : Int) ≤ 0 ∧ (0 : Int) ≤ 4294967295 by decide), (show (0 : Int) ≤ 0 ∧ (0 : Int) ≤ 32 by decide), (show (0 : Int) ≤ 0 ∧ (0 : Int) ≤ 4095 by decide), ⟨by have := ha.1; show 0 ≤ a; omega, by have := ha.2; show a ≤ _; omega⟩, (show (0 : Int) ≤ 0 ∧ (0 : Int) ≤ 65535 by decide)⟩⟩
  · obtain ⟨s, p, c, v, t, rfl, hs, hp, hc, hv, ht⟩ := h
    exact ⟨⟨nm_len hs, nm_len hp, e0, e0, e0⟩, ⟨ls_len ht, e1, e1, e1⟩, ⟨⟨r0, r1⟩, (show (0 : Int) ≤ 2 ∧ (2 : Int) ≤ 18 by decide), (show (0 : Int) ≤ 0 ∧ (0 : Int) < 281474976710656 by decide), (show (0 : Int) ≤ 0 ∧ (0 : Int) ≤ 4294967295 by decide), (show (0 : Int) ≤ 0 ∧ (0 : Int) ≤ 32 by decide), ⟨by have := hv.1; show 0 ≤ v; omega, by have := hv.2; show v ≤ _; omega⟩, (show (0 : Int) ≤ 0 ∧ (0 : Int) ≤ 16777216 by decide), ⟨by have := hc.1; show 0 ≤ c; omega, by have := hc.2; show c ≤ _; omega⟩⟩⟩
  · obtain ⟨s, p, q, r, rfl, hs, hp, hq, hr⟩ := h
    exact ⟨⟨nm_len hs, nm_len hp, nm_len hq, nm_len hr, e0⟩, ⟨e1, e1, e1, e1⟩, ⟨⟨r0, r1⟩, (show (0 : Int) ≤ 3 ∧ (3 : Int) ≤ 18 by decide), (show (0 : Int) ≤ 0 ∧ (0 : Int) < 281474976710656 by decide), (show (0 : Int) ≤ 0 ∧ (0 : Int) ≤ 4294967295 by decide), (show (0 : Int) ≤ 0 ∧ (0 : Int) ≤ 32 by decide), (show (0 : Int) ≤ 0 ∧ (0 : Int) ≤ 4095 by decide), (show (0 : Int) ≤ 0 ∧ (0 : Int) ≤ 16777216 by decide), (show (0 : Int) ≤ 0 ∧ (0 : Int) ≤ 65535 by decide)⟩⟩
  · obtain ⟨s, v, m, p, rfl, hs, hv, hm, hp⟩ := h
    exact ⟨⟨nm_len hs, nm_len hp, e0, e0, e0⟩, ⟨e1, e1, e1, e1⟩, ⟨⟨r0, r1⟩, (show (0 : Int) ≤ 4 ∧ (4 : Int) ≤ 18 by decide), ⟨hm.1, hm.2.1⟩, (show (0 : Int) ≤ 0 ∧ (0 : Int) ≤ 4294967295 by decide), (show (0 : Int) ≤ 0 ∧ (0 : Int) ≤ 32 by decide), ⟨by have := hv.1; show 0 ≤ v; omega, by have := hv.2; show v ≤ _; omega⟩, (show (0 : Int) ≤ 0 ∧ (0 : Int) ≤ 16777216 by decide), (show (0 : Int) ≤ 0 ∧ (0 : Int) ≤ 65535 by decide)⟩⟩
  · obtain ⟨s, a, rfl, hs, ha⟩ := h
    exact ⟨⟨nm_len hs, e0, e0, e0, e0⟩, ⟨e1, e1, e1, e1⟩, ⟨⟨r0, r1⟩, (show (0 : Int) ≤ 5 ∧ (5 : Int) ≤ 18 by decide), (show (0 : Int) ≤ 0 ∧ (0 : Int) < 281474976710656 by decide), ⟨by have := ha.1; show 0 ≤ a; omega, by have := ha.2; show a ≤ _; omega⟩, (show (0 : Int) ≤ 0 ∧ (0 : Int) ≤ 32 by decide), (show (0 : Int) ≤ 0 ∧ (0 : Int) ≤ 4095 by decide), (show (0 : Int) ≤ 0 ∧ (0 : Int) ≤ 16777216 by decide), (show (0 : Int) ≤ 0 ∧ (0 : Int) ≤ 65535 by decide)⟩⟩
  · obtain ⟨s, v, a, rfl, hs, hv, ha⟩ := h
    exact ⟨⟨nm_len hs, e0, e0, e0, e0⟩, ⟨e1, e1, e1, e1⟩, ⟨⟨r0, r1⟩, (show (0 : Int) ≤ 6 ∧ (6 : Int) ≤ 18 by decide), (show (0 : Int) ≤ 0 ∧ (0 : Int) < 281474976710656 by decide), (show (0 : Int) ≤ 0 ∧ (0 : Int) ≤ 4294967295 by decide), (show (0 : Int) ≤ 0 ∧ (0 : Int) ≤ 32 by decide), ⟨by have := hv.1; show 0 ≤ v; omega, by have := hv.2; show v ≤ _; omega⟩, ⟨by have := ha.1; show 0 ≤ a; omega, by have := ha.2; show a ≤ _; omega⟩, (show (0 : Int) ≤ 0 ∧ (0 : Int) ≤ 65535 by decide)⟩⟩
  · obtain ⟨s, a, x, rfl, hs, ha, hx⟩ := h
    exact ⟨⟨nm_len hs, e0, e0, e0, e0⟩, ⟨e1, e1, e1, ris_len hx.1⟩, ⟨⟨r0, r1⟩, (show (0 : Int) ≤ 7 ∧ (7 : Int) ≤ 18 by decide), (show (0 : Int) ≤ 0 ∧ (0 : Int) < 281474976710656 by decide), (show (0 : Int) ≤ 0 ∧ (0 : Int) ≤ 4294967295 by decide), (show (0 : Int) ≤ 0 ∧ (0 : Int) ≤ 32 by decide), (show (0 : Int) ≤ 0 ∧ (0 : Int) ≤ 4095 by decide), ⟨by have := ha.1; show 0 ≤ a; omega, by have := ha.2; show a ≤ _; omega⟩, (show (0 : Int) ≤ 0 ∧ (0 : Int) ≤ 65535 by decide)⟩⟩
  · obtain ⟨s, n, x, y, rfl, hs, hn, hx, hy⟩ := h
    exact ⟨⟨nm_len hs, e0, e0, e0, nm_len hn⟩, ⟨e1, ls_len hx, ls_len hy, e1⟩, ⟨⟨r0, r1⟩, (show (0 : Int) ≤ 8 ∧ (8 : Int) ≤ 18 by decide), (show (0 : Int) ≤ 0 ∧ (0 : Int) < 281474976710656 by decide), (show (0 : Int) ≤ 0 ∧ (0 : Int) ≤ 4294967295 by decide), (show (0 : Int) ≤ 0 ∧ (0 : Int) ≤ 32 by decide), (show (0 : Int) ≤ 0 ∧ (0 : Int) ≤ 4095 by decide), (show (0 : Int) ≤ 0 ∧ (0 : Int) ≤ 16777216 by decide), (show (0 : Int) ≤ 0 ∧ (0 : Int) ≤ 65535 by decide)⟩⟩
  · obtain ⟨s, v, n, a, b, rfl, hs, hv, hn, hab⟩ := h
    exact ⟨⟨nm_len hs, e0, e0, e0, nm_len hn⟩, ⟨e1, e1, e1, e1⟩, ⟨⟨r0, r1⟩, (show (0 : Int) ≤ 9 ∧ (9 : Int) ≤ 18 by decide), (show (0 : Int) ≤ 0 ∧ (0 : Int) < 281474976710656 by decide), ⟨hab.2.1.1, hab.2.1.2⟩, ⟨hab.2.2.1, hab.2.2.2⟩, ⟨by have := hv.1; show 0 ≤ v; omega, by have := hv.2; show v ≤ _; omega⟩, (show (0 : Int) ≤ 0 ∧ (0 : Int) ≤ 16777216 by decide), (show (0 : Int) ≤ 0 ∧ (0 : Int) ≤ 65535 by decide)⟩⟩
theorem SSl.of_any {w : World} {a : Option Addr} {len cap : Nat} {ss : List ByteArray} (h : IsRowS w a len cap ss) : ∃ l : List (List UInt8), SSl w a len cap l := by
  have hM : ∀ s ∈ ss, s.size ≤ maxLen := by
    rcases h with ⟨_, _, _, rfl⟩ | ⟨_, _, _, _, _, _, h6⟩
    · intro s hs; cases hs
    · exact h6
  obtain ⟨l, h1, _⟩ := SSl.of_row h hM
  exact ⟨l, h1⟩
theorem zero_ok : LvOk LV.zero := ⟨by decide, by decide, by decide⟩
theorem BoxF.to_row {w : World} {q : Nat} {L : LV} {s1 s2 s3 s4 : SlV} (h : BoxF w q 17 (lc L s1 s2 s3 s4)) (x : Int) : BoxF (w.setCell ⟨q, 0, none⟩ (.int .i64 x)) q 17 (lc { L with row := x } s1 s2 s3 s4) :=
  (h.set 0 (by omega) _).is (fun i hi => match i, hi with | 0, _ | 1, _ | 2, _ | 3, _ | 4, _ | 5, _ | 6, _ | 7, _ | 8, _ | 9, _ | 10, _ | 11, _ | 12, _ | 13, _ | 14, _ | 15, _ | 16, _ => rfl | i + 17, h => absurd h (by omega))
theorem BoxF.to_kind {w : World} {q : Nat} {L : LV} {s1 s2 s3 s4 : SlV} (h : BoxF w q 17 (lc L s1 s2 s3 s4)) (x : Int) : BoxF (w.setCell ⟨q, 1, none⟩ (.int .i64 x)) q 17 (lc { L with kind := x } s1 s2 s3 s4) :=
  (h.set 1 (by omega) _).is (fun i hi => match i, hi with | 0, _ | 1, _ | 2, _ | 3, _ | 4, _ | 5, _ | 6, _ | 7, _ | 8, _ | 9, _ | 10, _ | 11, _ | 12, _ | 13, _ | 14, _ | 15, _ | 16, _ => rfl | i + 17, h => absurd h (by omega))
theorem BoxF.to_vlan {w : World} {q : Nat} {L : LV} {s1 s2 s3 s4 : SlV} (h : BoxF w q 17 (lc L s1 s2 s3 s4)) (x : Int) : BoxF (w.setCell ⟨q, 10, none⟩ (.int .i64 x)) q 17 (lc { L with vlan := x } s1 s2 s3 s4) :=
  (h.set 10 (by omega) _).is (fun i hi => match i, hi with | 0, _ | 1, _ | 2, _ | 3, _ | 4, _ | 5, _ | 6, _ | 7, _ | 8, _ | 9, _ | 10, _ | 11, _ | 12, _ | 13, _ | 14, _ | 15, _ | 16, _ => rfl | i + 17, h => absurd h (by omega))
theorem BoxF.to_num {w : World} {q : Nat} {L : LV} {s1 s2 s3 s4 : SlV} (h : BoxF w q 17 (lc L s1 s2 s3 s4)) (x : Int) : BoxF (w.setCell ⟨q, 11, none⟩ (.int .i64 x)) q 17 (lc { L with num := x } s1 s2 s3 s4) :=
  (h.set 11 (by omega) _).is (fun i hi => match i, hi with | 0, _ | 1, _ | 2, _ | 3, _ | 4, _ | 5, _ | 6, _ | 7, _ | 8, _ | 9, _ | 10, _ | 11, _ | 12, _ | 13, _ | 14, _ | 15, _ | 16, _ => rfl | i + 17, h => absurd h (by omega))

/-- are words too many, or too long? -/
def greatB (ws : List (List UInt8)) : Bool := decide (20 < ws.length) || ws.any (fun p => decide (300 < p.length))
theorem great_no {ws : List (List UInt8)} (h : greatB ws = false) : ws.length ≤ 20 ∧ ∀ p ∈ ws, p.length ≤ 300 := by
  unfold greatB at h
  rw [Bool.or_eq_false_iff, decide_eq_false_iff_not, List.any_eq_false] at h
  refine ⟨by omega, fun p hp => ?_⟩
  have := h.2 p hp
  simp at this
  exact this
end Go.Proofs.YtagbfklcbekceaaGreatDoor
