/- palingref15's small functions: Place, In, rising, Member, At; lists of numbers compared (Ints, Addrs of any two). -/
import Derived.Test.YtnpembgchmmbjaaNtDat
import Derived.Test.YtnpembgchmmbjaaRef3
namespace Go.Proofs.Ytnpembgchmmbjaa
open Go.RowKit

/-- a slice of numbers reads as numbers -/
theorem isl_rsl {k : IntKind} {w : World} {F : Nat → Prop} {A : Option Addr} {n c : Nat} {xs : List Int} (h : RSl (Rdr.int k) w F A n c xs) : ISl w k A n c xs :=
  ⟨h.1, h.2.1, h.2.2.1, fun hn => by
    obtain ⟨b, off, e, _, hl, hc⟩ := h.2.2.2.2 hn
    refine ⟨b, off, e, hl, fun j hj => ?_⟩
    have hlt : j < xs.length := by rw [h.1]; exact hj
    obtain ⟨vs, rfl, h2⟩ := hc j xs[j] (List.getElem?_eq_getElem hlt)
    have h3 := h2 0 (.int k xs[j]) rfl
    rw [show off + j * (Rdr.int k).n + 0 = off + j by show off + j * 1 + 0 = off + j; omega] at h3
    rw [h3]
    simp [List.getD, hlt]⟩
/-- a net's box -/
structure NBox (w : World) (q : Nat) (S : NSl3) : Prop where
  c0 : w.cell? ⟨q, 0, none⟩ = some (.slice S.dv.A S.dv.n S.dv.c)
  c1 : w.cell? ⟨q, 1, none⟩ = some (.slice S.pt.A S.pt.n S.pt.c)
  c2 : w.cell? ⟨q, 2, none⟩ = some (.slice S.lk.A S.lk.n S.lk.c)
  c3 : w.cell? ⟨q, 3, none⟩ = some (.slice S.dm.A S.dm.n S.dm.c)
  c4 : w.cell? ⟨q, 4, none⟩ = some (.slice S.st.A S.st.n S.st.c)
  c5 : w.cell? ⟨q, 5, none⟩ = some (.slice S.fl.A S.fl.n S.fl.c)
  c6 : w.cell? ⟨q, 6, none⟩ = some (.slice S.vr.A S.vr.n S.vr.c)
  c7 : w.cell? ⟨q, 7, none⟩ = some (.slice S.ir.A S.ir.n S.ir.c)
  lt : q < w.heap.size
theorem NBox.new (w : World) (S : NSl3) (T : TypeId) : NBox (w.alloc (.cells (nA S) T)) w.heap.size S := by
  constructor <;> simp
theorem NBox.below {w w' : World} {q : Nat} {S : NSl3} (h : NBox w q S) (hb : Below w.heap.size w w') : NBox w' q S :=
  ⟨(hb.cell (p := ⟨q, 0, none⟩) h.lt).trans h.c0, (hb.cell (p := ⟨q, 1, none⟩) h.lt).trans h.c1, (hb.cell (p := ⟨q, 2, none⟩) h.lt).trans h.c2, (hb.cell (p := ⟨q, 3, none⟩) h.lt).trans h.c3, (hb.cell (p := ⟨q, 4, none⟩) h.lt).trans h.c4, (hb.cell (p := ⟨q, 5, none⟩) h.lt).trans h.c5, (hb.cell (p := ⟨q, 6, none⟩) h.lt).trans h.c6, (hb.cell (p := ⟨q, 7, none⟩) h.lt).trans h.c7, Nat.lt_of_lt_of_le h.lt hb.size⟩

/-- is it a place of a list of so many? -/
def plB (i m : Int) : Bool := decide (0 ≤ i) && decide (i < m)
theorem plB_iff (i m : Int) : plB i m = true ↔ 0 ≤ i ∧ i < m := by unfold plB; simp
set_option maxRecDepth 20000 in
theorem rplace_any (i m : Int) (w : World) : Calls Try.prog 49 #[.int .i64 i, .int .i64 m] w fun e w' => e = .returned (.bool (plB i m)) ∧ w = w' := by
  unfold plB
  by_cases h0 : 0 ≤ i
  · by_cases h1 : i < m
    · have e : (decide (0 ≤ i) && decide (i < m)) = true := by simp; omega
      rw [e]
      go_enter Try.func49, Try.ntmps49
      go_wp2
      go_ret
      exact ⟨rfl, rfl⟩
    · have e : (decide (0 ≤ i) && decide (i < m)) = false := by simp; omega
      rw [e]
      go_enter Try.func49, Try.ntmps49
      go_wp2
      go_ret
      exact ⟨rfl, rfl⟩
  · have e : (decide (0 ≤ i) && decide (i < m)) = false := by simp; omega
    rw [e]
    go_enter Try.func49, Try.ntmps49
    go_wp2
    go_ret
    exact ⟨rfl, rfl⟩
/-- is a number in a list? -/
def memB (xs : List Int) (x : Int) : Bool := decide (x ∈ xs)
theorem memB_take {xs : List Int} {k : Nat} {x : Int} (h : k < xs.length) (ha : x ∉ xs.take k) (hx : xs.getD k 0 ≠ x) : x ∉ xs.take (k + 1) := by
  rw [List.take_succ_eq_append_getElem h]
  intro hm
  rcases List.mem_append.1 hm with hm | hm
  · exact ha hm
  · have := List.mem_singleton.1 hm
    exact hx (by rw [this]; simp [List.getD, h])
set_option maxRecDepth 20000 in
set_option maxHeartbeats 1000000 in
theorem rin_any (A : Option Addr) (n c : Nat) (xs : List Int) (x : Int) (w : World) (h : ISl w .i64 A n c xs) : Calls Try.prog 23 #[.slice A n c, .int .i64 x] w fun e w' => e = .returned (.bool (memB xs x)) ∧ w = w' := by
  have hle := h.le
  have hcap := h.cap
  have HL := Lib.hid h.len
  have H := Lib.hid h
  have E1 := Lib.hid (show x ∈ xs → memB xs x = true from fun hx => decide_eq_true hx)
  have E0 := Lib.hid (show x ∉ xs → memB xs x = false from fun hx => decide_eq_false hx)
  generalize memB xs x = V at *
  clear h
  go_enter Try.func23, Try.ntmps23
  go_wp2
  go_loopw [5] (fun i wr => ∃ k : Nat, i = .int .i64 k ∧ k ≤ n ∧ wr = w ∧ x ∉ xs.take k) (fun i _ => match i with | .int _ y => (n - y).toNat | _ => 0)
  case atStart => exact ⟨0, rfl, by omega, rfl, by simp⟩
  case round =>
    obtain ⟨k, rfl, hk, rfl, hx⟩ := hrel
    have HX := Lib.hid hx
    clear hx
    by_cases hlt : k < n
    · obtain ⟨b, off, rfl, hb, hc⟩ := H.out.2.2.2 (by omega)
      have c0 := hc k hlt
      have hk2 : k < xs.length := by rw [HL.out]; exact hlt
      have NX := Lib.hid (fun hy => memB_take hk2 HX.out hy)
      have YX := Lib.hid (show xs.getD k 0 = x → x ∈ xs from fun e => by rw [← e]; simp [List.getD, hk2])
      generalize xs.getD k 0 = y at *
      have lt2 : (k : Int) < (n : Int) := by omega
      clear hc hk2
      by_cases hy : y = x
      · have ev := E1.out (YX.out hy)
        have ey : (y == x) = true := by simpa using hy
        subst ev
        go_wp2
        go_ret
        exact ⟨rfl, rfl⟩
      · have ey : (y == x) = false := by simpa using hy
        have N2 := Lib.hid (NX.out hy)
        go_wp2
        go_roundw
        case rel => exact ⟨k + 1, by simp, by omega, (by first | rfl | trivial), N2.out⟩
        case measure => simp only []; omega
    · have ev := E0.out (by have := HX.out; rwa [List.take_of_length_le (by rw [HL.out]; omega)] at this)
      have lt2 : ¬ (k : Int) < (n : Int) := by omega
      subst ev
      go_wp2
      go_ret
      exact ⟨rfl, rfl⟩
/-- none, or rising from 1 on? -/
def rsB (xs : List Int) (hi : Int) : Bool := decide (xs = []) || risIn xs 1 hi
set_option maxRecDepth 20000 in
theorem rrising_any (A : Option Addr) (n c : Nat) (xs : List Int) (hi : Int) (w : World) (h : ISl w .i64 A n c xs) : Calls Try.prog 51 #[.slice A n c, .int .i64 hi] w fun e w' => e = .returned (.bool (rsB xs hi)) ∧ Drew w w' := by
  have hl := h.len
  by_cases hn : n = 0
  · subst hn
    obtain rfl : xs = [] := List.eq_nil_of_length_eq_zero hl
    rw [show rsB [] hi = true by unfold rsB; simp]
    clear h hl
    go_enter Try.func51, Try.ntmps51
    go_wp2
    go_ret
    exact ⟨rfl, Drew.refl _⟩
  · have ne : ((n : Int) == 0) = false := by simp; omega
    rw [show rsB xs hi = risIn xs 1 hi by unfold rsB; rw [decide_eq_false (fun e => by rw [e] at hl; exact hn hl.symm)]; rfl]
    have R := Lib.hid (refRis_any A n c xs 1 hi w h)
    clear h hl hn
    go_enter Try.func51, Try.ntmps51
    go_wp2_with (go_at_call 72; (with_reducible refine R.out.mono ?_); rintro e w1 ⟨rfl, hd⟩)
    go_ret
    exact ⟨rfl, hd⟩
/-- has a port a VLAN? -/
def mbrB (p : PortV) (v : Int) : Bool := decide (v ≠ 0) && (decide (p.native = v) || memB p.tagged v)
set_option maxRecDepth 20000 in
theorem rmember_any (p : PortV) (s : Sl3) (v : Int) (w : World) (F : Nat → Prop) (hF : ∀ b, F b → b < w.heap.size) (h : RSl (Rdr.int .i64) w F s.A s.n s.c p.tagged) : Calls Try.prog 52 #[.agg (portC p s).toArray, .int .i64 v] w fun e w' => e = .returned (.bool (mbrB p v)) ∧ Below w.heap.size w w' := by
  have IN := Lib.hid (fun (w' : World) (hb : Below w.heap.size w w') => rin_any s.A s.n s.c p.tagged v w' (isl_rsl (h.below hF hb)))
  unfold portC mbrB
  by_cases h0 : v = 0
  · have e : (decide (v ≠ 0) && (decide (p.native = v) || memB p.tagged v)) = false := by rw [decide_eq_false (by simpa using h0)]; rfl
    rw [e]
    have ne : (v != 0) = false := by simpa using h0
    clear h h0 e
    go_enter Try.func52, Try.ntmps52
    go_wp2
    go_ret
    exact ⟨rfl, (Below.refl _ _).alloc (Nat.le_refl _) _⟩
  · have ne : (v != 0) = true := by simpa using h0
    by_cases h1 : p.native = v
    · have e : (decide (v ≠ 0) && (decide (p.native = v) || memB p.tagged v)) = true := by rw [decide_eq_true h0, decide_eq_true h1]; rfl
      rw [e]
      have ne2 : (p.native == v) = true := by simpa using h1
      clear h h0 e h1
      go_enter Try.func52, Try.ntmps52
      go_wp2
      go_ret
      exact ⟨rfl, (Below.refl _ _).alloc (Nat.le_refl _) _⟩
    · have e : (decide (v ≠ 0) && (decide (p.native = v) || memB p.tagged v)) = memB p.tagged v := by rw [decide_eq_true h0, decide_eq_false h1]; rfl
      rw [e]
      have ne2 : (p.native == v) = false := by simpa using h1
      generalize memB p.tagged v = V at *
      clear h h0 e h1
      go_enter Try.func52, Try.ntmps52
      go_wp2_with (go_at_call 23; (with_reducible refine (IN.out _ ((Below.refl _ _).alloc (Nat.le_refl _) _)).mono ?_); rintro e w1 ⟨rfl, rfl⟩)
      go_ret
      exact ⟨rfl, (Below.refl _ _).alloc (Nat.le_refl _) _⟩
/-- the first domain of a device and a VLAN, from number k on -/
def atK : List DomV → Int → Int → Nat → Int
  | [], _, _, _ => -1
  | d :: r, dev, v, k => if d.dev = dev ∧ d.vlan = v then (k : Int) else atK r dev v (k + 1)
def atF (N : NV) (dev v : Int) : Int := atK N.domains dev v 0
theorem atK_at {xs : List DomV} {k : Nat} (h : k < xs.length) (dev v : Int) : atK (xs.drop k) dev v k = if (xs.getD k DomV.zero).dev = dev ∧ (xs.getD k DomV.zero).vlan = v then (k : Int) else atK (xs.drop (k + 1)) dev v (k + 1) := by
  rw [List.drop_eq_getElem_cons h, atK]
  simp [List.getD, h]
set_option maxRecDepth 20000 in
set_option maxHeartbeats 2000000 in
theorem rat_any (N : NV) (S : NSl3) (dev v : Int) (w : World) (h : NRead w (allB w) N S) : Calls Try.prog 24 #[netV S, .int .i64 dev, .int .i64 v] w fun e w' => e = .returned (.int .i64 (atF N dev v)) ∧ Below w.heap.size w w' := by
  have H := Lib.hid h.dm
  have hle := h.dm.le
  have hcap := h.dm.cap
  have HL := Lib.hid h.dm.len
  have E := Lib.hid (show atF N dev v = atK (N.domains.drop 0) dev v 0 from rfl)
  generalize atF N dev v = V at *
  have NB := Lib.hid (NBox.new w S 31)
  clear h
  unfold netV
  go_enter Try.func24, Try.ntmps24
  go_wp2
  obtain ⟨w1, hw1⟩ : ∃ w1, w.alloc (.cells (nA S) 31) = w1 := ⟨_, rfl⟩
  have B1 := Lib.hid (show Below w.heap.size w w1 by rw [← hw1]; exact (Below.refl _ _).alloc (Nat.le_refl _) _)
  rw [hw1] at NB ⊢
  clear hw1
  have c3 := NB.out.c3
  go_loopw [7] (fun i wr => ∃ k : Nat, i = .int .i64 k ∧ k ≤ S.dm.n ∧ wr = w1 ∧ V = atK (N.domains.drop k) dev v k) (fun i _ => match i with | .int _ y => (S.dm.n - y).toNat | _ => 0)
  case atStart => exact ⟨0, rfl, by omega, rfl, E.out⟩
  case round =>
    obtain ⟨k, rfl, hk, hwr, hv⟩ := hrel
    subst hwr
    have HV := Lib.hid hv
    clear hv
    by_cases hlt : k < S.dm.n
    · obtain ⟨b0, o0, vs, e0, _, hb0, ⟨s, rfl, _⟩, r0⟩ := rsl_at H.out k hlt DomV.zero
      have hk2 : k < N.domains.length := by rw [HL.out]; exact hlt
      have AT := Lib.hid (atK_at hk2 dev v)
      generalize N.domains.getD k DomV.zero = D at *
      have R1 := rangeAt_keep r0 (B1.out.block b0 hb0)
      have d0 := R1 0 _ rfl
      have d1 := R1 1 _ rfl
      simp only [Nat.add_zero] at d0
      rw [show o0 + k * domR.n = o0 + k * 6 from rfl] at d0 d1
      have lt2 : (k : Int) < (S.dm.n : Int) := by omega
      rw [e0] at c3 ⊢
      clear r0 R1 hk2
      by_cases hd : D.dev = dev
      · have x1 : (D.dev == dev) = true := by simpa using hd
        by_cases hv2 : D.vlan = v
        · have x2 : (D.vlan == v) = true := by simpa using hv2
          have EV := Lib.hid (show V = (k : Int) by rw [HV.out, AT.out, if_pos ⟨hd, hv2⟩])
          clear hd hv2
          go_wp2
          go_ret
          exact ⟨by rw [EV.out]; rfl, B1.out⟩
        · have x2 : (D.vlan == v) = false := by simpa using hv2
          have EV := Lib.hid (show V = atK (N.domains.drop (k + 1)) dev v (k + 1) by rw [HV.out, AT.out, if_neg (by intro g; exact hv2 g.2)])
          go_wp2
          go_roundw
          case rel => exact ⟨k + 1, by simp, by omega, (by first | rfl | trivial), EV.out⟩
          case measure => simp only []; omega
      · have x1 : (D.dev == dev) = false := by simpa using hd
        have EV := Lib.hid (show V = atK (N.domains.drop (k + 1)) dev v (k + 1) by rw [HV.out, AT.out, if_neg (by intro g; exact hd g.1)])
        go_wp2
        go_roundw
        case rel => exact ⟨k + 1, by simp, by omega, (by first | rfl | trivial), EV.out⟩
        case measure => simp only []; omega
    · have lt2 : ¬ (k : Int) < (S.dm.n : Int) := by omega
      have EV := Lib.hid (show V = -1 by rw [HV.out, List.drop_of_length_le (by rw [HL.out]; omega)]; rfl)
      go_wp2
      go_ret
      exact ⟨by rw [EV.out]; rfl, B1.out⟩
end Go.Proofs.Ytnpembgchmmbjaa
