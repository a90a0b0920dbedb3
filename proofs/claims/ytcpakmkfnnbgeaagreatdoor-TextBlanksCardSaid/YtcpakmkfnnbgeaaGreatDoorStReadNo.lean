/- The contract of palingref11.Read, where there are no letters. -/
import Derived.Test.YtcpakmkfnnbgeaaGreatDoorStRes
namespace Go.Proofs.YtcpakmkfnnbgeaaGreatDoor
open Go.RowKit

theorem fm_len (ws : List (List UInt8)) : (fmV ws).length ≤ 6 := by
  unfold fmV
  by_cases h0 : ws = []
  · rw [if_pos h0]; decide
  rw [if_neg h0]
  by_cases h1 : kdV (wat ws 0) = 1
  · rw [if_pos h1]; decide
  rw [if_neg h1]
  by_cases h3 : kdV (wat ws 0) = 3
  · rw [if_pos h3]; decide
  rw [if_neg h3]
  by_cases h4 : kdV (wat ws 0) = 4
  · rw [if_pos h4]; decide
  rw [if_neg h4]
  by_cases h5 : kdV (wat ws 0) = 5
  · rw [if_pos h5]; decide
  rw [if_neg h5]
  by_cases h6 : kdV (wat ws 0) = 6
  · rw [if_pos h6]; decide
  rw [if_neg h6]
  by_cases h7 : kdV (wat ws 0) = 7
  · rw [if_pos h7]; decide
  rw [if_neg h7]
  by_cases h8 : kdV (wat ws 0) = 8
  · rw [if_pos h8]; decide
  rw [if_neg h8]
  by_cases h9 : kdV (wat ws 0) = 9
  · rw [if_pos h9]; decide
  rw [if_neg h9]
  by_cases h2 : kdV (wat ws 0) = 2
  · rw [if_pos h2]
    by_cases g : ws.length = 7 ∧ ¬ wat ws 4 = sAccess
    · rw [if_pos g]; decide
    rw [if_neg g]
    by_cases g2 : ws.length = 6 ∧ ¬ wat ws 4 = sTrunk
    · rw [if_pos g2]; decide
    rw [if_neg g2]; decide
  · rw [if_neg h2]; decide
set_option maxRecDepth 20000 in
set_option maxHeartbeats 2000000 in
theorem rread_a1 (A : Option Addr) (n c : Nat) (ws : List (List UInt8)) (row : Int) (w : World) (h : SSl w A n c ws) (f : fmV ws = []) (r : n ≤ 4) :
    Calls Tryz.prog 19 #[.slice A n c, .int .i64 row] w (GotLine w LV.zero 22) := by
  have H := Lib.hid h
  have CF := Lib.hid (fun w h => form_any A n c ws w h)
  rw [f] at CF
  clear f
  have r1 : ¬ (4 : Int) < (n : Int) := by omega
  clear h
  go_enter Tryz.func19, Tryz.ntmps19
  go_wp2_with (go_at_call 26; (with_reducible refine (CF.out _ (H.out.alloc _)).mono ?_); rintro e w1 ⟨rfl, rfl⟩)
  exact bodyPost_ret (read_results _ _ w.heap.size 22 LV.zero SlV.nil SlV.nil SlV.nil SlV.nil rfl rfl (zero_box w _)) rfl ⟨_, _, _, _, rfl, LRead.zero, LNew.nil _, (Below.refl _ _).alloc (Nat.le_refl _) _⟩
set_option maxRecDepth 20000 in
set_option maxHeartbeats 2000000 in
theorem rread_a2 (A : Option Addr) (n c : Nat) (ws : List (List UInt8)) (row : Int) (w : World) (h : SSl w A n c ws) (f : fmV ws = []) (r : 4 < n) (p : ¬ wat ws 0 = sPort) :
    Calls Tryz.prog 19 #[.slice A n c, .int .i64 row] w (GotLine w LV.zero 22) := by
  have H := Lib.hid h
  have hle := h.le
  obtain ⟨b, off, rfl, hb, hc⟩ := h.at_ (by omega)
  have c0 : w.cell? ⟨b, off, none⟩ = some (.string (str (wat ws 0))) := hc 0 (by omega)
  clear hc
  have CF := Lib.hid (fun w h => form_any (some ⟨b, off, none⟩) n c ws w h)
  rw [f] at CF
  clear f
  have r1 : (4 : Int) < (n : Int) := by omega
  have p1 : (wat ws 0 == ([112, 111, 114, 116] : List UInt8)) = false := by simpa [sPort] using p
  clear p
  clear h
  go_enter Tryz.func19, Tryz.ntmps19
  go_wp2_with (go_at_call 26; (with_reducible refine (CF.out _ (H.out.alloc _)).mono ?_); rintro e w1 ⟨rfl, rfl⟩)
  exact bodyPost_ret (read_results _ _ w.heap.size 22 LV.zero SlV.nil SlV.nil SlV.nil SlV.nil rfl rfl (zero_box w _)) rfl ⟨_, _, _, _, rfl, LRead.zero, LNew.nil _, (Below.refl _ _).alloc (Nat.le_refl _) _⟩
set_option maxRecDepth 20000 in
set_option maxHeartbeats 2000000 in
theorem rread_a3 (A : Option Addr) (n c : Nat) (ws : List (List UInt8)) (row : Int) (w : World) (h : SSl w A n c ws) (f : fmV ws = []) (r : 7 < n) (p : wat ws 0 = sPort) :
    Calls Tryz.prog 19 #[.slice A n c, .int .i64 row] w (GotLine w LV.zero 22) := by
  have H := Lib.hid h
  have hle := h.le
  obtain ⟨b, off, rfl, hb, hc⟩ := h.at_ (by omega)
  have c0 : w.cell? ⟨b, off, none⟩ = some (.string (str (wat ws 0))) := hc 0 (by omega)
  clear hc
  have CF := Lib.hid (fun w h => form_any (some ⟨b, off, none⟩) n c ws w h)
  rw [f] at CF
  clear f
  have r1 : (4 : Int) < (n : Int) := by omega
  have r2 : ¬ (n : Int) ≤ 7 := by omega
  rw [p] at c0
  unfold sPort at c0
  clear p
  clear h
  go_enter Tryz.func19, Tryz.ntmps19
  go_wp2_with (go_at_call 26; (with_reducible refine (CF.out _ (H.out.alloc _)).mono ?_); rintro e w1 ⟨rfl, rfl⟩)
  exact bodyPost_ret (read_results _ _ w.heap.size 22 LV.zero SlV.nil SlV.nil SlV.nil SlV.nil rfl rfl (zero_box w _)) rfl ⟨_, _, _, _, rfl, LRead.zero, LNew.nil _, (Below.refl _ _).alloc (Nat.le_refl _) _⟩
set_option maxRecDepth 20000 in
set_option maxHeartbeats 2000000 in
theorem rread_a4 (A : Option Addr) (n c : Nat) (ws : List (List UInt8)) (row : Int) (w : World) (h : SSl w A n c ws) (f : fmV ws = []) (r : n = 5) (p : wat ws 0 = sPort) :
    Calls Tryz.prog 19 #[.slice A n c, .int .i64 row] w (GotLine w LV.zero 22) := by
  have H := Lib.hid h
  have hle := h.le
  obtain ⟨b, off, rfl, hb, hc⟩ := h.at_ (by omega)
  have c0 : w.cell? ⟨b, off, none⟩ = some (.string (str (wat ws 0))) := hc 0 (by omega)
  clear hc
  have CF := Lib.hid (fun w h => form_any (some ⟨b, off, none⟩) n c ws w h)
  rw [f] at CF
  clear f
  subst r
  rw [p] at c0
  unfold sPort at c0
  clear p
  clear h
  go_enter Tryz.func19, Tryz.ntmps19
  go_wp2_with (go_at_call 26; (with_reducible refine (CF.out _ (H.out.alloc _)).mono ?_); rintro e w1 ⟨rfl, rfl⟩)
  exact bodyPost_ret (read_results _ _ w.heap.size 22 LV.zero SlV.nil SlV.nil SlV.nil SlV.nil rfl rfl (zero_box w _)) rfl ⟨_, _, _, _, rfl, LRead.zero, LNew.nil _, (Below.refl _ _).alloc (Nat.le_refl _) _⟩
set_option maxRecDepth 20000 in
set_option maxHeartbeats 2000000 in
theorem rread_a5 (A : Option Addr) (n c : Nat) (ws : List (List UInt8)) (row : Int) (w : World) (h : SSl w A n c ws) (f : fmV ws = []) (r : n = 6 ∨ n = 7) (p : wat ws 0 = sPort) (g : wat ws 4 = sAccess) :
    Calls Tryz.prog 19 #[.slice A n c, .int .i64 row] w (GotLine w LV.zero 22) := by
  have H := Lib.hid h
  have hle := h.le
  obtain ⟨b, off, rfl, hb, hc⟩ := h.at_ (by omega)
  have c0 : w.cell? ⟨b, off, none⟩ = some (.string (str (wat ws 0))) := hc 0 (by omega)
  have c4 : w.cell? ⟨b, off + 4, none⟩ = some (.string (str (wat ws 4))) := hc 4 (by omega)
  clear hc
  have CF := Lib.hid (fun w h => form_any (some ⟨b, off, none⟩) n c ws w h)
  rw [f] at CF
  clear f
  have r1 : (4 : Int) < (n : Int) := by omega
  have r2 : (n : Int) ≤ 7 := by omega
  have r3 : (6 : Int) ≤ (n : Int) := by omega
  rw [p] at c0
  unfold sPort at c0
  rw [g] at c4
  unfold sAccess at c4
  clear p g r
  clear h
  go_enter Tryz.func19, Tryz.ntmps19
  go_wp2_with (go_at_call 26; (with_reducible refine (CF.out _ (H.out.alloc _)).mono ?_); rintro e w1 ⟨rfl, rfl⟩)
  exact bodyPost_ret (read_results _ _ w.heap.size 22 LV.zero SlV.nil SlV.nil SlV.nil SlV.nil rfl rfl (zero_box w _)) rfl ⟨_, _, _, _, rfl, LRead.zero, LNew.nil _, (Below.refl _ _).alloc (Nat.le_refl _) _⟩
set_option maxRecDepth 20000 in
set_option maxHeartbeats 2000000 in
theorem rread_a6 (A : Option Addr) (n c : Nat) (ws : List (List UInt8)) (row : Int) (w : World) (h : SSl w A n c ws) (f : fmV ws = []) (r : n = 6 ∨ n = 7) (p : wat ws 0 = sPort) (g : wat ws 4 = sTrunk) :
    Calls Tryz.prog 19 #[.slice A n c, .int .i64 row] w (GotLine w LV.zero 22) := by
  have H := Lib.hid h
  have hle := h.le
  obtain ⟨b, off, rfl, hb, hc⟩ := h.at_ (by omega)
  have c0 : w.cell? ⟨b, off, none⟩ = some (.string (str (wat ws 0))) := hc 0 (by omega)
  have c4 : w.cell? ⟨b, off + 4, none⟩ = some (.string (str (wat ws 4))) := hc 4 (by omega)
  clear hc
  have CF := Lib.hid (fun w h => form_any (some ⟨b, off, none⟩) n c ws w h)
  rw [f] at CF
  clear f
  have r1 : (4 : Int) < (n : Int) := by omega
  have r2 : (n : Int) ≤ 7 := by omega
  have r3 : (6 : Int) ≤ (n : Int) := by omega
  rw [p] at c0
  unfold sPort at c0
  rw [g] at c4
  unfold sTrunk at c4
  clear p g r
  clear h
  go_enter Tryz.func19, Tryz.ntmps19
  go_wp2_with (go_at_call 26; (with_reducible refine (CF.out _ (H.out.alloc _)).mono ?_); rintro e w1 ⟨rfl, rfl⟩)
  exact bodyPost_ret (read_results _ _ w.heap.size 22 LV.zero SlV.nil SlV.nil SlV.nil SlV.nil rfl rfl (zero_box w _)) rfl ⟨_, _, _, _, rfl, LRead.zero, LNew.nil _, (Below.refl _ _).alloc (Nat.le_refl _) _⟩
set_option maxRecDepth 20000 in
set_option maxHeartbeats 2000000 in
theorem rread_b1 (A : Option Addr) (n c : Nat) (ws : List (List UInt8)) (row : Int) (w : World) (h : SSl w A n c ws) (f : ¬ fmV ws = []) (f2 : ¬ n = (fmV ws).length + 1) (r : n ≤ 4) :
    Calls Tryz.prog 19 #[.slice A n c, .int .i64 row] w (GotLine w LV.zero 22) := by
  have H := Lib.hid h
  have CF := Lib.hid (fun w h => form_any A n c ws w h)
  have d1 : (fmV ws == ([] : List UInt8)) = false := by simpa using f
  have fl : (fmV ws).length ≤ 6 := fm_len ws
  have d2 : ((n : Int) != ((fmV ws).length : Int) + 1) = true := by simp; omega
  generalize fmV ws = F at *
  clear f f2
  have r1 : ¬ (4 : Int) < (n : Int) := by omega
  clear h
  go_enter Tryz.func19, Tryz.ntmps19
  go_wp2_with (go_at_call 26; (with_reducible refine (CF.out _ (H.out.alloc _)).mono ?_); rintro e w1 ⟨rfl, rfl⟩)
  exact bodyPost_ret (read_results _ _ w.heap.size 22 LV.zero SlV.nil SlV.nil SlV.nil SlV.nil rfl rfl (zero_box w _)) rfl ⟨_, _, _, _, rfl, LRead.zero, LNew.nil _, (Below.refl _ _).alloc (Nat.le_refl _) _⟩
set_option maxRecDepth 20000 in
set_option maxHeartbeats 2000000 in
theorem rread_b2 (A : Option Addr) (n c : Nat) (ws : List (List UInt8)) (row : Int) (w : World) (h : SSl w A n c ws) (f : ¬ fmV ws = []) (f2 : ¬ n = (fmV ws).length + 1) (r : 4 < n) (p : ¬ wat ws 0 = sPort) :
    Calls Tryz.prog 19 #[.slice A n c, .int .i64 row] w (GotLine w LV.zero 22) := by
  have H := Lib.hid h
  have hle := h.le
  obtain ⟨b, off, rfl, hb, hc⟩ := h.at_ (by omega)
  have c0 : w.cell? ⟨b, off, none⟩ = some (.string (str (wat ws 0))) := hc 0 (by omega)
  clear hc
  have CF := Lib.hid (fun w h => form_any (some ⟨b, off, none⟩) n c ws w h)
  have d1 : (fmV ws == ([] : List UInt8)) = false := by simpa using f
  have fl : (fmV ws).length ≤ 6 := fm_len ws
  have d2 : ((n : Int) != ((fmV ws).length : Int) + 1) = true := by simp; omega
  generalize fmV ws = F at *
  clear f f2
  have r1 : (4 : Int) < (n : Int) := by omega
  have p1 : (wat ws 0 == ([112, 111, 114, 116] : List UInt8)) = false := by simpa [sPort] using p
  clear p
  clear h
  go_enter Tryz.func19, Tryz.ntmps19
  go_wp2_with (go_at_call 26; (with_reducible refine (CF.out _ (H.out.alloc _)).mono ?_); rintro e w1 ⟨rfl, rfl⟩)
  exact bodyPost_ret (read_results _ _ w.heap.size 22 LV.zero SlV.nil SlV.nil SlV.nil SlV.nil rfl rfl (zero_box w _)) rfl ⟨_, _, _, _, rfl, LRead.zero, LNew.nil _, (Below.refl _ _).alloc (Nat.le_refl _) _⟩
set_option maxRecDepth 20000 in
set_option maxHeartbeats 2000000 in
theorem rread_b3 (A : Option Addr) (n c : Nat) (ws : List (List UInt8)) (row : Int) (w : World) (h : SSl w A n c ws) (f : ¬ fmV ws = []) (_f2 : ¬ n = (fmV ws).length + 1) (r : 7 < n) (p : wat ws 0 = sPort) :
    Calls Tryz.prog 19 #[.slice A n c, .int .i64 row] w (GotLine w LV.zero 22) := by
  have H := Lib.hid h
  have hle := h.le
  obtain ⟨b, off, rfl, hb, hc⟩ := h.at_ (by omega)
  have c0 : w.cell? ⟨b, off, none⟩ = some (.string (str (wat ws 0))) := hc 0 (by omega)
  clear hc
  have CF := Lib.hid (fun w h => form_any (some ⟨b, off, none⟩) n c ws w h)
  have d1 : (fmV ws == ([] : List UInt8)) = false := by simpa using f
  have fl : (fmV ws).length ≤ 6 := fm_len ws
  have d2 : ((n : Int) != ((fmV ws).length : Int) + 1) = true := by simp; omega
  generalize fmV ws = F at *
  clear f
  have r1 : (4 : Int) < (n : Int) := by omega
  have r2 : ¬ (n : Int) ≤ 7 := by omega
  rw [p] at c0
  unfold sPort at c0
  clear p
  clear h
  go_enter Tryz.func19, Tryz.ntmps19
  go_wp2_with (go_at_call 26; (with_reducible refine (CF.out _ (H.out.alloc _)).mono ?_); rintro e w1 ⟨rfl, rfl⟩)
  exact bodyPost_ret (read_results _ _ w.heap.size 22 LV.zero SlV.nil SlV.nil SlV.nil SlV.nil rfl rfl (zero_box w _)) rfl ⟨_, _, _, _, rfl, LRead.zero, LNew.nil _, (Below.refl _ _).alloc (Nat.le_refl _) _⟩
set_option maxRecDepth 20000 in
set_option maxHeartbeats 2000000 in
theorem rread_b4 (A : Option Addr) (n c : Nat) (ws : List (List UInt8)) (row : Int) (w : World) (h : SSl w A n c ws) (f : ¬ fmV ws = []) (f2 : ¬ n = (fmV ws).length + 1) (r : n = 5) (p : wat ws 0 = sPort) :
    Calls Tryz.prog 19 #[.slice A n c, .int .i64 row] w (GotLine w LV.zero 22) := by
  have H := Lib.hid h
  have hle := h.le
  obtain ⟨b, off, rfl, hb, hc⟩ := h.at_ (by omega)
  have c0 : w.cell? ⟨b, off, none⟩ = some (.string (str (wat ws 0))) := hc 0 (by omega)
  clear hc
  have CF := Lib.hid (fun w h => form_any (some ⟨b, off, none⟩) n c ws w h)
  have d1 : (fmV ws == ([] : List UInt8)) = false := by simpa using f
  have fl : (fmV ws).length ≤ 6 := fm_len ws
  have d2 : ((n : Int) != ((fmV ws).length : Int) + 1) = true := by simp; omega
  generalize fmV ws = F at *
  clear f f2
  subst r
  rw [p] at c0
  unfold sPort at c0
  clear p
  clear h
  go_enter Tryz.func19, Tryz.ntmps19
  go_wp2_with (go_at_call 26; (with_reducible refine (CF.out _ (H.out.alloc _)).mono ?_); rintro e w1 ⟨rfl, rfl⟩)
  exact bodyPost_ret (read_results _ _ w.heap.size 22 LV.zero SlV.nil SlV.nil SlV.nil SlV.nil rfl rfl (zero_box w _)) rfl ⟨_, _, _, _, rfl, LRead.zero, LNew.nil _, (Below.refl _ _).alloc (Nat.le_refl _) _⟩
set_option maxRecDepth 20000 in
set_option maxHeartbeats 2000000 in
theorem rread_b5 (A : Option Addr) (n c : Nat) (ws : List (List UInt8)) (row : Int) (w : World) (h : SSl w A n c ws) (f : ¬ fmV ws = []) (f2 : ¬ n = (fmV ws).length + 1) (r : n = 6 ∨ n = 7) (p : wat ws 0 = sPort) (g : wat ws 4 = sAccess) :
    Calls Tryz.prog 19 #[.slice A n c, .int .i64 row] w (GotLine w LV.zero 22) := by
  have H := Lib.hid h
  have hle := h.le
  obtain ⟨b, off, rfl, hb, hc⟩ := h.at_ (by omega)
  have c0 : w.cell? ⟨b, off, none⟩ = some (.string (str (wat ws 0))) := hc 0 (by omega)
  have c4 : w.cell? ⟨b, off + 4, none⟩ = some (.string (str (wat ws 4))) := hc 4 (by omega)
  clear hc
  have CF := Lib.hid (fun w h => form_any (some ⟨b, off, none⟩) n c ws w h)
  have d1 : (fmV ws == ([] : List UInt8)) = false := by simpa using f
  have fl : (fmV ws).length ≤ 6 := fm_len ws
  have d2 : ((n : Int) != ((fmV ws).length : Int) + 1) = true := by simp; omega
  generalize fmV ws = F at *
  clear f f2
  have r1 : (4 : Int) < (n : Int) := by omega
  have r2 : (n : Int) ≤ 7 := by omega
  have r3 : (6 : Int) ≤ (n : Int) := by omega
  rw [p] at c0
  unfold sPort at c0
  rw [g] at c4
  unfold sAccess at c4
  clear p g r
  clear h
  go_enter Tryz.func19, Tryz.ntmps19
  go_wp2_with (go_at_call 26; (with_reducible refine (CF.out _ (H.out.alloc _)).mono ?_); rintro e w1 ⟨rfl, rfl⟩)
  exact bodyPost_ret (read_results _ _ w.heap.size 22 LV.zero SlV.nil SlV.nil SlV.nil SlV.nil rfl rfl (zero_box w _)) rfl ⟨_, _, _, _, rfl, LRead.zero, LNew.nil _, (Below.refl _ _).alloc (Nat.le_refl _) _⟩
set_option maxRecDepth 20000 in
set_option maxHeartbeats 2000000 in
theorem rread_b6 (A : Option Addr) (n c : Nat) (ws : List (List UInt8)) (row : Int) (w : World) (h : SSl w A n c ws) (f : ¬ fmV ws = []) (f2 : ¬ n = (fmV ws).length + 1) (r : n = 6 ∨ n = 7) (p : wat ws 0 = sPort) (g : wat ws 4 = sTrunk) :
    Calls Tryz.prog 19 #[.slice A n c, .int .i64 row] w (GotLine w LV.zero 22) := by
  have H := Lib.hid h
  have hle := h.le
  obtain ⟨b, off, rfl, hb, hc⟩ := h.at_ (by omega)
  have c0 : w.cell? ⟨b, off, none⟩ = some (.string (str (wat ws 0))) := hc 0 (by omega)
  have c4 : w.cell? ⟨b, off + 4, none⟩ = some (.string (str (wat ws 4))) := hc 4 (by omega)
  clear hc
  have CF := Lib.hid (fun w h => form_any (some ⟨b, off, none⟩) n c ws w h)
  have d1 : (fmV ws == ([] : List UInt8)) = false := by simpa using f
  have fl : (fmV ws).length ≤ 6 := fm_len ws
  have d2 : ((n : Int) != ((fmV ws).length : Int) + 1) = true := by simp; omega
  generalize fmV ws = F at *
  clear f f2
  have r1 : (4 : Int) < (n : Int) := by omega
  have r2 : (n : Int) ≤ 7 := by omega
  have r3 : (6 : Int) ≤ (n : Int) := by omega
  rw [p] at c0
  unfold sPort at c0
  rw [g] at c4
  unfold sTrunk at c4
  clear p g r
  clear h
  go_enter Tryz.func19, Tryz.ntmps19
  go_wp2_with (go_at_call 26; (with_reducible refine (CF.out _ (H.out.alloc _)).mono ?_); rintro e w1 ⟨rfl, rfl⟩)
  exact bodyPost_ret (read_results _ _ w.heap.size 22 LV.zero SlV.nil SlV.nil SlV.nil SlV.nil rfl rfl (zero_box w _)) rfl ⟨_, _, _, _, rfl, LRead.zero, LNew.nil _, (Below.refl _ _).alloc (Nat.le_refl _) _⟩
end Go.Proofs.YtcpakmkfnnbgeaaGreatDoor
