/- The contracts of ipv4.put and of palingref07.bytes: numbers put behind bytes. -/
import Derived.Test.YtgmeicenjgiihaaPkBy
import Derived.Test.YtgmeicenjgiihaaBsl
namespace Go.Proofs.Ytgmeicenjgiihaa
open Go.RowKit
open Go.Lib (byteCells)

theorem wb_get (k i : Nat) (x : Int) (hk : k ≤ 4) (hi : i < k) : (wb k x)[i]'(by rw [wb_len]; exact hi) = u8 (x / 256 ^ (k - 1 - i) % 256) := by
  have d2 : x / 256 / 256 = x / 65536 := by omega
  have d3 : x / 256 / 256 / 256 = x / 16777216 := by omega
  match k, hk, i, hi with
  | 1, _, 0, _ => simp [wb]
  | 2, _, 0, _ => simp [wb]
  | 2, _, 1, _ => simp [wb]
  | 3, _, 0, _ => simp [wb, d2]
  | 3, _, 1, _ => simp [wb]
  | 3, _, 2, _ => simp [wb]
  | 4, _, 0, _ => simp [wb, d3]
  | 4, _, 1, _ => simp [wb, d2]
  | 4, _, 2, _ => simp [wb]
  | 4, _, 3, _ => simp [wb]
theorem wb_take (k i : Nat) (x : Int) (hk : k ≤ 4) (hi : i < k) : (wb k x).take (i + 1) = (wb k x).take i ++ [u8 (x / 256 ^ (k - 1 - i) % 256)] := by
  rw [List.take_succ_eq_append_getElem (by rw [wb_len]; exact hi), wb_get k i x hk hi]
/-- numbers behind one another, k bytes each -/
def wbs (k : Nat) : List Int → List UInt8
  | [] => []
  | x :: r => wb k x ++ wbs k r
theorem wbs_snoc (k : Nat) : ∀ (l : List Int) (x : Int), wbs k (l ++ [x]) = wbs k l ++ wb k x
  | [], x => by simp [wbs]
  | y :: r, x => by simp [wbs, wbs_snoc k r x]
theorem wbs_len (k : Nat) : ∀ l : List Int, (wbs k l).length = k * l.length
  | [] => rfl
  | x :: r => by rw [wbs, List.length_append, wb_len, wbs_len k r, List.length_cons, Nat.mul_succ]; omega
theorem wbs_take (k : Nat) (l : List Int) (j : Nat) (h : j < l.length) : wbs k (l.take (j + 1)) = wbs k (l.take j) ++ wb k (l.getD j 0) := by
  rw [List.take_succ_eq_append_getElem h, wbs_snoc]
  congr 1
  simp [List.getD, h]

/-- a block of numbers, as it was laid out -/
def Blk (w : World) (p : Nat) (ns : List Int) : Prop := ∃ fz, w.heap[p]? = some (.cells (ns.map (Value.int .u32)).toArray 34 fz)
theorem Blk.lt {w : World} {p : Nat} {ns : List Int} (h : Blk w p ns) : p < w.heap.size := by
  obtain ⟨fz, h⟩ := h
  rcases Nat.lt_or_ge p w.heap.size with h' | h'
  · exact h'
  · rw [Array.getElem?_eq_none h'] at h; cases h
theorem Blk.below {w w' : World} {p : Nat} {ns : List Int} (h : Blk w p ns) (g : Below w.heap.size w w') : Blk w' p ns := by
  have hl := h.lt
  obtain ⟨fz, h⟩ := h
  exact ⟨fz, (g.block p hl).trans h⟩
theorem Blk.other {w : World} {p B n : Nat} {ns : List Int} {v : Value} {xs : List Value} (h : Blk w p ns) (g : w.ownsRow B 5 1 v n xs) : some p ≠ v.ownBlock := by
  obtain ⟨fz, h⟩ := h
  rcases g.2 with ⟨rfl, _⟩ | ⟨q, cap, cur, rfl, _, hh, _⟩
  · intro e; cases e
  · intro e
    injection e with e
    subst e
    rw [h] at hh
    injection hh with hh
    injection hh with _ h2
    cases h2
theorem Blk.grown {w w' : World} {p B n : Nat} {ns : List Int} {v : Value} {xs : List Value} (h : Blk w p ns) (g : w.ownsRow B 5 1 v n xs) (hg : w.grownBy w' v.ownBlock) : Blk w' p ns := by
  have ho := h.other g
  have hl := h.lt
  obtain ⟨fz, h⟩ := h
  exact ⟨fz, (hg.block p hl ho).trans h⟩
theorem Blk.cell {w : World} {p : Nat} {ns : List Int} (h : Blk w p ns) (k : Nat) (hk : k < ns.length) : w.cell? ⟨p, k, none⟩ = some (.int .u32 (ns.getD k 0)) := by
  obtain ⟨fz, h⟩ := h
  simp [World.cell?, h, List.getD, hk]
theorem Blk.new (w : World) (p : Nat) (hp : p = w.heap.size) (ns : List Int) (cs : Array Value) (h : cs = (ns.map (Value.int .u32)).toArray) : Blk (w.alloc (.cells cs 34)) p ns := by
  subst h hp
  refine ⟨(0, 0), ?_⟩
  show (w.heap.push _)[w.heap.size]? = _
  rw [Array.getElem?_push_size]

set_option maxHeartbeats 2000000 in
theorem put_any (a : World) (v : Value) (n : Nat) (xs : List UInt8) (W : Nat) (wi : Int) (hwi : wi = (W : Int)) (p m : Nat) (ns : List Int) (w : World) (hW : W ≤ 4) (hl : ns.length = m) (hm : m ≤ 100) (hn : n ≤ 100000) (hb : Below a.heap.size a w) (hown : w.ownsRow a.heap.size 5 1 v n (byteCells xs))
    (hS : Blk w p ns) (hr : ∀ x ∈ ns, 0 ≤ x ∧ x < 4294967296) :
    Calls Try.prog 58 #[v, .int .i64 wi, .slice (some ⟨p, 0, none⟩) m m] w fun e w' => ∃ v', e = .returned v' ∧ w'.ownsRow a.heap.size 5 1 v' (n + W * m) (byteCells (xs ++ wbs W ns)) ∧ Below a.heap.size a w' := by
  subst hwi
  obtain ⟨i0, hi, hz0, hz1, hz2⟩ := info_parts Try.info5
  have Hi := Lib.hid hi; have Hz0 := Lib.hid hz0; have Hz1 := Lib.hid hz1; have Hz2 := Lib.hid hz2
  have HB := Lib.hid hb
  have HO := Lib.hid hown
  have HK := Lib.hid hS
  have HL := Lib.hid hl
  have HR := Lib.hid hr
  clear hi hz0 hz1 hz2 hb hown hS hl hr
  go_enter Try.func58, Try.ntmps58
  go_wp2
  go_loopw [0, 12] (fun v i wr => ∃ k : Nat, i = .int .i64 k ∧ k ≤ m ∧ wr.ownsRow a.heap.size 5 1 v (n + W * k) (byteCells (xs ++ wbs W (ns.take k))) ∧ Below a.heap.size a wr ∧ Blk wr p ns) (fun _ i _ => match i with | .int _ x => (m - x).toNat | _ => 0)
  case atStart => exact ⟨0, rfl, by omega, by simpa [wbs] using HO.out, HB.out, HK.out⟩
  case round =>
    obtain ⟨k, rfl, hk, ho, hb, hp⟩ := hrel
    have O := Lib.hid ho
    have B := Lib.hid hb
    have P := Lib.hid hp
    clear ho hb hp HB HO HK
    by_cases hlt : k < m
    · have c0 := P.out.cell k (by rw [HL.out]; exact hlt)
      have hx := HR.out (ns.getD k 0) (by
        have : k < ns.length := by rw [HL.out]; exact hlt
        simp [List.getD, this])
      obtain ⟨x0, x1⟩ := hx
      have E := Lib.hid (wbs_take W ns k (by rw [HL.out]; exact hlt))
      generalize ns.getD k 0 = x at *
      have hkw : W * k ≤ 400 := Nat.le_trans (Nat.mul_le_mul hW (show k ≤ 100 by omega)) (by decide)
      go_wp2
      rename World => W1
      go_loopw [0, 17] (fun v i wr => ∃ j : Nat, i = .int .i64 j ∧ j ≤ W ∧ wr.ownsRow a.heap.size 5 1 v (n + W * k + j) (byteCells (xs ++ wbs W (ns.take k) ++ (wb W x).take j)) ∧ Below a.heap.size a wr ∧ Blk wr p ns) (fun _ i _ => match i with | .int _ x => (W - x).toNat | _ => 0)
      case atStart => exact ⟨0, rfl, by omega, by simpa using O.out, B.out, P.out⟩
      case round =>
        obtain ⟨j, rfl, hj, ho, hb, hp⟩ := hrel
        have O := Lib.hid ho
        have B := Lib.hid hb
        have P := Lib.hid hp
        clear ho hb hp
        by_cases hlt2 : j < W
        · have T := Lib.hid (wb_take W j x hW hlt2)
          obtain ⟨d, hd0⟩ : ∃ d, W = j + 1 + d := ⟨W - j - 1, by omega⟩
          have hd := Lib.hid hd0
          have N0 := Lib.hid (show 0 ≤ x / 2 ^ (8 * d) % 256 from Int.emod_nonneg _ (by decide))
          have N1 := Lib.hid (show x / 2 ^ (8 * d) % 256 < 256 from Int.emod_lt_of_pos _ (by decide))
          have hd2 : (W : Int) - 1 - (j : Int) = (d : Int) := by omega
          clear hd0
          have T2 := Lib.hid (show (wb W x).take (j + 1) = (wb W x).take j ++ [Go.Proofs.Ytgmeicenjgiihaa.u8 (x / 2 ^ (8 * d) % 256)] by
            rw [T.out, show W - 1 - j = d by have := hd.out; omega, show (256 : Int) = 2 ^ 8 from rfl, ← Int.pow_mul])
          go_wp2_with (at_builtin; refine wpList_bapp rfl (.tmp 20) (.tmp 29) 22 rfl a.heap.size 5 i0 (.int .u8 0) 1 Try.underlying22 Hi.out Hz0.out Hz1.out Hz2.out rfl _ _ _ (by rfl) (O.out.alloc _) (some ⟨wr.heap.size, 0, none⟩) 1 1 [Go.Proofs.Ytgmeicenjgiihaa.u8 (x / 2 ^ (8 * d) % 256)] (by rfl) (bsl_one wr _ (0, 0) ⟨N0.out, N1.out⟩) (by unfold maxLen; omega) (by omega) (by have := B.out.size; simp at this ⊢; omega) ?_; intro v3 w3 hown3 hgrow3; have B3 := Lib.hid (below_app (B.out.alloc B.out.size _) (O.out.alloc _) hgrow3); have P3 := Lib.hid ((P.out.below ((Below.refl _ _).alloc (Nat.le_refl _) _)).grown (O.out.alloc _) hgrow3); rw [← bcells_app, List.append_assoc, ← T2.out] at hown3; have O3 := Lib.hid hown3; clear hown3 hgrow3)
          go_roundw
          case rel => exact ⟨j + 1, by simp, by omega, O3.out, B3.out, P3.out⟩
          case measure => simp only []; omega
        · have E2 := Lib.hid (show (wb W x).take j = wb W x from List.take_of_length_le (by rw [wb_len]; omega))
          have O2 := Lib.hid (show wr.ownsRow a.heap.size 5 1 u0 (n + W * (k + 1)) (byteCells (xs ++ wbs W (ns.take (k + 1)))) by
            have := O.out
            rw [E2.out, List.append_assoc, ← E.out, show n + W * k + j = n + W * (k + 1) by rw [Nat.mul_succ]; omega] at this
            exact this)
          go_wp2
          go_roundw
          case rel => exact ⟨k + 1, by simp, by omega, O2.out, B.out, P.out⟩
          case measure => simp only []; omega
    · have E2 := Lib.hid (show ns.take k = ns from List.take_of_length_le (by rw [HL.out]; omega))
      obtain rfl : k = m := by omega
      go_wp2
      go_ret
      exact ⟨_, rfl, by have := O.out; rw [E2.out] at this; exact this, B.out⟩
end Go.Proofs.Ytgmeicenjgiihaa
