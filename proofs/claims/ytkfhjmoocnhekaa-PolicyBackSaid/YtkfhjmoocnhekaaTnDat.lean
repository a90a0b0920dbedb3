/- A tenant as data that cells read as; what a row of a policy is; where a text's first dot stands. -/
import Derived.Test.YtkfhjmoocnhekaaRd
import Derived.Test.YtkfhjmoocnhekaaLnRef
import Derived.Test.YtkfhjmoocnhekaaCode3
namespace Go.Proofs.Ytkfhjmoocnhekaa
open Go.RowKit

/-- a tenant -/
structure TV where
  row : Int
  name : List UInt8
  devs : List (List UInt8)
  ports : List (List UInt8)
/-- a slice as its three numbers -/
structure SlT where
  A : Option Addr
  n : Nat
  c : Nat
def TV.zero : TV := ⟨0, [], [], []⟩
def SlT.nil : SlT := ⟨none, 0, 0⟩
/-- the cells of a tenant -/
def tenC (T : TV) (s1 s2 : SlT) : List Value := [.int .i64 T.row, .string (str T.name), .slice s1.A s1.n s1.c, .slice s2.A s2.n s2.c]
/-- a tenant as a value -/
def tenV (T : TV) (s1 s2 : SlT) : Value := .agg #[.int .i64 T.row, .string (str T.name), .slice s1.A s1.n s1.c, .slice s2.A s2.n s2.c]
def tenR : Rdr TV where
  n := 4
  rd := fun w F vs T => ∃ s1 s2, vs = tenC T s1 s2 ∧ RSl Rdr.str_ w F s1.A s1.n s1.c T.devs ∧ RSl Rdr.str_ w F s2.A s2.n s2.c T.ports
  len := by rintro w F vs T ⟨s1, s2, rfl, _⟩; rfl
  one := by rintro w F vs T ⟨s1, s2, rfl, _⟩ v hv; simp [tenC] at hv; rcases hv with rfl | rfl | rfl | rfl <;> rfl
  keep := by rintro w w' F F' vs T ⟨s1, s2, rfl, h1, h2⟩ hb hF; exact ⟨s1, s2, rfl, h1.keep hb hF, h2.keep hb hF⟩
/-- a slice of texts reads as texts -/
theorem ssl_of {w : World} {F : Nat → Prop} {A : Option Addr} {n c : Nat} {xs : List (List UInt8)} (h : RSl Rdr.str_ w F A n c xs) : SSl w A n c xs :=
  ⟨h.1, h.2.1, h.2.2.1, fun hn => by
    obtain ⟨b, off, e, _, hl, hc⟩ := h.2.2.2.2 hn
    refine ⟨b, off, e, hl, fun j hj => ?_⟩
    have hlt : j < xs.length := by rw [h.1]; exact hj
    obtain ⟨vs, rfl, h2⟩ := hc j xs[j] (List.getElem?_eq_getElem hlt)
    have h3 := h2 0 (.string (str xs[j])) rfl
    rw [show off + j * Rdr.str_.n + 0 = off + j by show off + j * 1 + 0 = off + j; omega] at h3
    rw [h3]
    simp [List.getD, hlt]⟩
theorem rsl_of {w : World} {A : Option Addr} {n c : Nat} {xs : List (List UInt8)} (h : SSl w A n c xs) (hA : A = none → c = 0) (F : Nat → Prop) (hF : ∀ ad, A = some ad → 0 < n → F ad.block) : RSl Rdr.str_ w F A n c xs :=
  ⟨h.1, h.2.1, h.2.2.1, hA, fun hn => by
    obtain ⟨b, off, e, hl, hc⟩ := h.2.2.2 hn
    refine ⟨b, off, e, hF _ e hn, hl, fun j x hx => ⟨[.string (str x)], rfl, fun i v hv => ?_⟩⟩
    have hj : j < n := by rw [← h.1]; exact (List.getElem?_eq_some_iff.1 hx).1
    match i, hv with
    | 0, hv =>
      simp at hv
      subst hv
      have := hc j hj
      rw [show xs.getD j [] = x by simp [List.getD, hx]] at this
      rw [show off + j * Rdr.str_.n + 0 = off + j by show off + j * 1 + 0 = off + j; omega]
      exact this
    | i + 1, hv => simp at hv⟩

/-! A row. -/
noncomputable def nwB (s : List UInt8) : Bool := @decide (NameOk (str s)) (Classical.propDecidable _)
theorem nwB_iff (s : List UInt8) : nwB s = true ↔ NameOk (str s) := by
  unfold nwB
  exact @decide_eq_true_iff _ (Classical.propDecidable _)
/-- is a word a device's name, a dot, and a port's name? -/
noncomputable def pwB (l : List UInt8) : Bool := hasC 46 l && (nwB (headC 46 l) && nwB (tailC 46 l))
def sTen : List UInt8 := [116, 101, 110, 97, 110, 116]
/-- why words are no tenant -/
noncomputable def rnE (ws : List (List UInt8)) : Int :=
  if ws.getD 0 [] ≠ sTen ∨ ws.length < 3 ∨ 18 < ws.length then 22 else if nwB (ws.getD 1 []) = false then 20 else if (ws.drop 2).all pwB = true then 0 else 20
/-- the tenant that words are -/
noncomputable def rnT (ws : List (List UInt8)) (row : Int) : TV := if rnE ws = 0 then ⟨row, ws.getD 1 [], (ws.drop 2).map (headC 46), (ws.drop 2).map (tailC 46)⟩ else TV.zero
theorem headC_at (c : UInt8) : ∀ (l : List UInt8) (k : Nat), c ∉ l.take k → k < l.length → l.getD k 0 = c → headC c l = l.take k ∧ tailC c l = l.drop (k + 1)
  | [], k, _, h, _ => by simp at h
  | a :: r, 0, _, _, h => by
    have : a = c := by simpa using h
    subst this
    exact ⟨(headC_same a r).1, (headC_same a r).2⟩
  | a :: r, k + 1, h1, h2, h3 => by
    have ha : a ≠ c := fun e => h1 (by simp [e])
    obtain ⟨i1, i2⟩ := headC_at c r k (fun e => h1 (by simp [e])) (by simpa using h2) (by simpa using h3)
    exact ⟨by rw [(headC_cons c a r ha).1, i1]; rfl, by rw [(headC_cons c a r ha).2, i2]; rfl⟩
theorem headC_no (c : UInt8) : ∀ l : List UInt8, c ∉ l → headC c l = l
  | [], _ => rfl
  | a :: r, h => by rw [(headC_cons c a r (fun e => h (by simp [e]))).1, headC_no c r (fun e => h (by simp [e]))]
set_option maxRecDepth 20000 in
theorem dot_any (l : List UInt8) (w : World) (hs : l.length ≤ 1000000) : Calls Try.prog 35 #[.string (str l)] w fun e w' => e = .returned (.int .i64 ((headC 46 l).length : Int)) ∧ w = w' := by
  obtain ⟨n, hn⟩ : ∃ n, l.length = n := ⟨_, rfl⟩
  have HN := Lib.hid hn
  have sz : (str l).size = n := by rw [str_size, hn]
  rw [hn] at hs
  clear hn
  go_enter Try.func35, Try.ntmps35
  go_wp2
  go_loopw [3] (fun i wr => ∃ k : Nat, i = .int .i64 k ∧ wr = w ∧ k ≤ n ∧ (46 : UInt8) ∉ l.take k) (fun i _ => match i with | .int _ x => (n - x).toNat | _ => 0)
  case atStart => exact ⟨0, rfl, rfl, by omega, by simp⟩
  case round =>
    obtain ⟨k, rfl, hw, hk, hno⟩ := hrel
    subst hw
    have NO := Lib.hid hno
    clear hno
    by_cases hlt : k < n
    · have R := fun w => run_index_bat l k (by rw [HN.out]; exact hlt) w
      have hb : bat l k = ((l.getD k 0).toNat : Int) := rfl
      have i0 : (k : Int) < (n : Int) := by omega
      by_cases e : l.getD k 0 = 46
      · have E := Lib.hid (headC_at 46 l k NO.out (by rw [HN.out]; exact hlt) e)
        have hb2 : bat l k = 46 := by rw [hb, e]; rfl
        rw [hb2] at R
        clear hb hb2 e
        go_wp2
        go_ret
        exact ⟨by rw [E.out.1, List.length_take, HN.out, Nat.min_eq_left (by omega)]; rfl, rfl⟩
      · have N2 := Lib.hid (show (46 : UInt8) ∉ l.take (k + 1) by
          rw [take_more (by rw [HN.out]; exact hlt)]
          intro hm
          rcases List.mem_append.1 hm with hm | hm
          · exact NO.out hm
          · exact e (List.mem_singleton.1 hm).symm)
        have hne : (bat l k == 46) = false := by
          rw [hb, beq_eq_false_iff_ne]
          intro h2
          exact e (UInt8.toNat_inj.1 (by have : (46 : UInt8).toNat = 46 := rfl; omega))
        generalize bat l k = x at *
        clear hb e
        go_wp2
        go_roundw
        case rel => exact ⟨k + 1, by simp, trivial, by omega, N2.out⟩
        case measure => simp only []; omega
    · have E := Lib.hid (headC_no 46 l (by have := NO.out; rwa [List.take_of_length_le (by rw [HN.out]; omega)] at this))
      have i0 : ¬ (k : Int) < (n : Int) := by omega
      go_wp2
      go_ret
      exact ⟨by rw [E.out, HN.out]; rfl, rfl⟩
end Go.Proofs.Ytkfhjmoocnhekaa
