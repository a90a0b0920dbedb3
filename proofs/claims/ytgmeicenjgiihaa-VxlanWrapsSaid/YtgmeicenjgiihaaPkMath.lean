/- Packets' headers as bytes: what they are put as, what is read of them, and their sums. -/
import Derived.Test.YtgmeicenjgiihaaSumMath
namespace Go.Proofs.Ytgmeicenjgiihaa
open Go.RowKit
open Go.Lib (byteCells)

/-- so many bytes of a number, the highest first -/
def wb : Nat → Int → List UInt8
  | 0, _ => []
  | k + 1, x => wb k (x / 256) ++ [u8 (x % 256)]
theorem wb_len : ∀ (k : Nat) (x : Int), (wb k x).length = k
  | 0, _ => rfl
  | k + 1, x => by rw [wb, List.length_append, wb_len k]; rfl
/-- four bytes of a list as a number, the highest first -/
def four (l : List UInt8) (i : Nat) : Int := two l i * 65536 + two l (i + 2)
theorem four_bd (l : List UInt8) (i : Nat) : 0 ≤ four l i ∧ four l i < 4294967296 := by
  have h0 := two_bd l i
  have h1 := two_bd l (i + 2)
  unfold four
  omega
/-- the number that bytes are, the highest first -/
def be (l : List UInt8) : Int := l.foldl (fun a c => a * 256 + (c.toNat : Int)) 0
theorem be_snoc (l : List UInt8) (c : UInt8) : be (l ++ [c]) = be l * 256 + (c.toNat : Int) := by simp [be]
theorem be_take (l : List UInt8) (i : Nat) (h : i < l.length) : be (l.take (i + 1)) = be (l.take i) * 256 + bat l i := by
  rw [List.take_succ_eq_append_getElem h, be_snoc]
  congr 1
  simp [bat, List.getD, h]
theorem be_take_bd (l : List UInt8) : ∀ i : Nat, i ≤ l.length → 0 ≤ be (l.take i) ∧ be (l.take i) < 256 ^ i
  | 0, _ => by simp [be]
  | i + 1, h => by
    have := be_take_bd l i (by omega)
    have h2 := bat_lo l i
    have h3 := bat_hi l i
    rw [be_take l i (by omega), Int.pow_succ]
    omega
theorem be_two (l : List UInt8) (i : Nat) (h : i + 2 ≤ l.length) : be ((l.drop i).take 2) = two l i := by
  have hl : (l.drop i).length = l.length - i := List.length_drop ..
  have e : ∀ j, bat (l.drop i) j = bat l (i + j) := fun j => by simp [bat, List.getD]
  rw [be_take _ 1 (by omega), be_take _ 0 (by omega), e, e]
  simp [be, two]
theorem be_four (l : List UInt8) (i : Nat) (h : i + 4 ≤ l.length) : be ((l.drop i).take 4) = four l i := by
  have hl : (l.drop i).length = l.length - i := List.length_drop ..
  have e : ∀ j, bat (l.drop i) j = bat l (i + j) := fun j => by simp [bat, List.getD]
  rw [be_take _ 3 (by omega), be_take _ 2 (by omega), be_take _ 1 (by omega), be_take _ 0 (by omega), e, e, e, e]
  simp [be, two, four]
  have e2 : i + 2 + 1 = i + 3 := rfl
  rw [e2]
  omega

/-- a header with the sum s, ahead of n bytes -/
def hd (T I L R S D : Int) (n : Nat) (s : Int) : List UInt8 :=
  wb 1 69 ++ wb 1 T ++ wb 2 (20 + n) ++ wb 2 I ++ wb 2 0 ++ wb 1 L ++ wb 1 R ++ wb 2 s ++ wb 4 S ++ wb 4 D
theorem hd_len (T I L R S D : Int) (n : Nat) (s : Int) : (hd T I L R S D n s).length = 20 := by simp [hd, wb_len]
/-- may a packet of this head be? -/
def pok (T I L R : Int) : Prop := (0 ≤ T ∧ T ≤ 255) ∧ (0 ≤ L ∧ L ≤ 255) ∧ (0 ≤ R ∧ R ≤ 255) ∧ (0 ≤ I ∧ I ≤ 65535)
instance (T I L R : Int) : Decidable (pok T I L R) := by unfold pok; infer_instance
/-- the plain sum of a header without its sum -/
def hsum (T I L R S D : Int) (n : Nat) : Int := 17664 + T + (20 + n) + I + (L * 256 + R) + S / 65536 + S % 65536 + D / 65536 + D % 65536
theorem hd_list (T I L R S D : Int) (n : Nat) (s : Int) : hd T I L R S D n s =
    [69, u8 (T % 256), u8 ((20 + n) / 256 % 256), u8 ((20 + n) % 256), u8 (I / 256 % 256), u8 (I % 256), 0, 0, u8 (L % 256), u8 (R % 256), u8 (s / 256 % 256), u8 (s % 256),
      u8 (S / 256 / 256 / 256 % 256), u8 (S / 256 / 256 % 256), u8 (S / 256 % 256), u8 (S % 256), u8 (D / 256 / 256 / 256 % 256), u8 (D / 256 / 256 % 256), u8 (D / 256 % 256), u8 (D % 256)] := by
  simp [hd, wb]
  decide
theorem pS_hd (T I L R S D : Int) (n : Nat) (s : Int) (h : pok T I L R) (hS : 0 ≤ S ∧ S < 4294967296) (hD : 0 ≤ D ∧ D < 4294967296) (hn : n ≤ 1480) (hs : 0 ≤ s ∧ s ≤ 65535) :
    pS (hd T I L R S D n s) = hsum T I L R S D n + s := by
  obtain ⟨⟨t0, t1⟩, ⟨l0, l1⟩, ⟨r0, r1⟩, ⟨i0, i1⟩⟩ := h
  rw [hd_list]
  simp only [pS]
  have v := fun x => u8_val (x % 256) (by omega) (by omega)
  rw [v, v, v, v, v, v, v, v, v, v, v, v, v, v, v, v, v]
  unfold hsum
  have e1 : ((69 : UInt8).toNat : Int) = 69 := rfl
  have e2 : ((0 : UInt8).toNat : Int) = 0 := rfl
  rw [e1, e2]
  omega
theorem hsum_pos {T I L R S D : Int} {n : Nat} (h : pok T I L R) (hS : 0 ≤ S ∧ S < 4294967296) (hD : 0 ≤ D ∧ D < 4294967296) : 17684 ≤ hsum T I L R S D n := by
  obtain ⟨⟨t0, t1⟩, ⟨l0, l1⟩, ⟨r0, r1⟩, ⟨i0, i1⟩⟩ := h
  unfold hsum
  omega
/-- a header's sum -/
def ck (T I L R S D : Int) (n : Nat) : Int := 65535 - nm (hsum T I L R S D n)
theorem ck_bd (T I L R S D : Int) (n : Nat) : 0 ≤ ck T I L R S D n ∧ ck T I L R S D n ≤ 65535 := by
  have := @nm_bd (hsum T I L R S D n)
  unfold ck
  omega
theorem of_hd {T I L R S D : Int} {n : Nat} (h : pok T I L R) (hS : 0 ≤ S ∧ S < 4294967296) (hD : 0 ≤ D ∧ D < 4294967296) (hn : n ≤ 1480) : 65535 - sumF 0 (hd T I L R S D n 0) = ck T I L R S D n := by
  rw [sumF_nm _ 0 (by decide) (by decide), pS_hd T I L R S D n 0 h hS hD hn ⟨by decide, by decide⟩]
  unfold ck
  rw [Int.zero_add, Int.add_zero]
/-- a packet's bytes -/
def pbs (T I L R S D : Int) (l : List UInt8) : List UInt8 := hd T I L R S D l.length (ck T I L R S D l.length) ++ l
theorem pbs_len (T I L R S D : Int) (l : List UInt8) : (pbs T I L R S D l).length = 20 + l.length := by rw [pbs, List.length_append, hd_len]
theorem pbs_cells (T I L R S D : Int) (l : List UInt8) : byteCells (pbs T I L R S D l) = byteCells (hd T I L R S D l.length (ck T I L R S D l.length)) ++ byteCells l := bcells_app _ _
theorem right_hd {T I L R S D : Int} {n : Nat} (h : pok T I L R) (hS : 0 ≤ S ∧ S < 4294967296) (hD : 0 ≤ D ∧ D < 4294967296) (hn : n ≤ 1480) : sumF 0 (hd T I L R S D n (ck T I L R S D n)) = 65535 := by
  have hp := hsum_pos (n := n) h hS hD
  rw [sumF_nm _ 0 (by decide) (by decide), pS_hd T I L R S D n _ h hS hD hn (ck_bd ..)]
  unfold ck
  generalize hsum T I L R S D n = Y at *
  unfold nm
  rw [if_neg (show ¬ Y = 0 by omega)]
  split <;> omega

/-! What Take says of bytes. -/
/-- why bytes are no packet, 0 of those that are -/
def rE (l : List UInt8) : Int :=
  if l.length < 20 then 10 else if bat l 0 ≠ 69 ∨ two l 2 < 20 then 11 else if (l.length : Int) < two l 2 then 10 else if two l 6 ≠ 0 then 11 else if sumF 0 (l.take 20) = 65535 then 0 else 12
theorem rE_short {l : List UInt8} (h : l.length < 20) : rE l = 10 := by unfold rE; rw [if_pos h]
theorem rE_form {l : List UInt8} (h : ¬ l.length < 20) (g : bat l 0 ≠ 69 ∨ two l 2 < 20) : rE l = 11 := by unfold rE; rw [if_neg h, if_pos g]
theorem rE_less {l : List UInt8} (h : ¬ l.length < 20) (g : ¬ (bat l 0 ≠ 69 ∨ two l 2 < 20)) (k : (l.length : Int) < two l 2) : rE l = 10 := by unfold rE; rw [if_neg h, if_neg g, if_pos k]
theorem rE_zero {l : List UInt8} (h : ¬ l.length < 20) (g : ¬ (bat l 0 ≠ 69 ∨ two l 2 < 20)) (k : ¬ (l.length : Int) < two l 2) (z : two l 6 ≠ 0) : rE l = 11 := by unfold rE; rw [if_neg h, if_neg g, if_neg k, if_pos z]
theorem rE_sum {l : List UInt8} (h : ¬ l.length < 20) (g : ¬ (bat l 0 ≠ 69 ∨ two l 2 < 20)) (k : ¬ (l.length : Int) < two l 2) (z : ¬ two l 6 ≠ 0) (s : ¬ sumF 0 (l.take 20) = 65535) : rE l = 12 := by unfold rE; rw [if_neg h, if_neg g, if_neg k, if_neg z, if_neg s]
theorem rE_ok {l : List UInt8} (h : ¬ l.length < 20) (g : ¬ (bat l 0 ≠ 69 ∨ two l 2 < 20)) (k : ¬ (l.length : Int) < two l 2) (z : ¬ two l 6 ≠ 0) (s : sumF 0 (l.take 20) = 65535) : rE l = 0 := by unfold rE; rw [if_neg h, if_neg g, if_neg k, if_neg z, if_pos s]
theorem rE_cases (l : List UInt8) : (rE l = 0 ∧ 20 ≤ l.length ∧ bat l 0 = 69 ∧ 20 ≤ two l 2 ∧ two l 2 ≤ (l.length : Int) ∧ two l 6 = 0 ∧ sumF 0 (l.take 20) = 65535) ∨ rE l = 10 ∨ rE l = 11 ∨ rE l = 12 := by
  by_cases h : l.length < 20
  · exact .inr (.inl (rE_short h))
  · by_cases g : bat l 0 ≠ 69 ∨ two l 2 < 20
    · exact .inr (.inr (.inl (rE_form h g)))
    · by_cases k : (l.length : Int) < two l 2
      · exact .inr (.inl (rE_less h g k))
      · by_cases z : two l 6 ≠ 0
        · exact .inr (.inr (.inl (rE_zero h g k z)))
        · by_cases s : sumF 0 (l.take 20) = 65535
          · exact .inl ⟨rE_ok h g k z s, by omega, by omega, by omega, by omega, by omega, s⟩
          · exact .inr (.inr (.inr (rE_sum h g k z s)))
/-- a packet's body -/
def bodyF (l : List UInt8) : List UInt8 := (l.take (two l 2).toNat).drop 20
theorem bodyF_len {l : List UInt8} (h : 20 ≤ two l 2) (g : two l 2 ≤ (l.length : Int)) : ((bodyF l).length : Int) = two l 2 - 20 := by
  unfold bodyF
  rw [List.length_drop, List.length_take]
  omega

/-! What is put is taken. -/
theorem bat_cons (a : UInt8) (l : List UInt8) : bat (a :: l) 0 = (a.toNat : Int) := rfl
theorem bat_next (a : UInt8) (l : List UInt8) (j : Nat) : bat (a :: l) (j + 1) = bat l j := by simp [bat, List.getD]
theorem taken (T I L R S D : Int) (l k : List UInt8) (h : pok T I L R) (hS : 0 ≤ S ∧ S < 4294967296) (hD : 0 ≤ D ∧ D < 4294967296) (hn : l.length ≤ 1480) :
    rE (pbs T I L R S D l ++ k) = 0 ∧ bat (pbs T I L R S D l ++ k) 1 = T ∧ two (pbs T I L R S D l ++ k) 4 = I ∧ bat (pbs T I L R S D l ++ k) 8 = L ∧ bat (pbs T I L R S D l ++ k) 9 = R ∧
      four (pbs T I L R S D l ++ k) 12 = S ∧ four (pbs T I L R S D l ++ k) 16 = D ∧ bodyF (pbs T I L R S D l ++ k) = l := by
  have hr := right_hd (n := l.length) h hS hD hn
  have hlen : (pbs T I L R S D l ++ k).length = 20 + l.length + k.length := by rw [List.length_append, pbs_len]
  have ht : (pbs T I L R S D l ++ k).take 20 = hd T I L R S D l.length (ck T I L R S D l.length) := by
    rw [pbs, List.append_assoc, List.take_left' (hd_len ..)]
  have hb : ∀ m, 20 ≤ m → (pbs T I L R S D l ++ k).drop m = (l ++ k).drop (m - 20) := fun m hm => by
    rw [pbs, List.append_assoc, List.drop_append, hd_len, List.drop_eq_nil_of_le (by rw [hd_len]; exact hm), List.nil_append]
  obtain ⟨⟨t0, t1⟩, ⟨l0, l1⟩, ⟨r0, r1⟩, ⟨i0, i1⟩⟩ := h
  have v := fun x => u8_val (x % 256) (by omega) (by omega)
  have e1 : ((69 : UInt8).toNat : Int) = 69 := rfl
  have e2 : ((0 : UInt8).toNat : Int) = 0 := rfl
  have hp : pbs T I L R S D l ++ k = hd T I L R S D l.length (ck T I L R S D l.length) ++ (l ++ k) := by rw [pbs, List.append_assoc]
  have hsz : two (pbs T I L R S D l ++ k) 2 = 20 + l.length := by
    rw [hp, hd_list]
    show ((u8 _).toNat : Int) * 256 + ((u8 _).toNat : Int) = _
    rw [v, v]
    omega
  refine ⟨rE_ok (by omega) ?_ (by omega) ?_ (by rw [ht]; exact hr), ?_, ?_, ?_, ?_, ?_, ?_, ?_⟩
  · have : bat (pbs T I L R S D l ++ k) 0 = 69 := by
      rw [hp, hd_list]
      show ((69 : UInt8).toNat : Int) = 69
      decide
    omega
  · have : two (pbs T I L R S D l ++ k) 6 = 0 := by
      rw [hp, hd_list]
      show ((0 : UInt8).toNat : Int) * 256 + ((0 : UInt8).toNat : Int) = 0
      decide
    omega
  · rw [hp, hd_list]
    show ((u8 _).toNat : Int) = _
    rw [v]
    omega
  · rw [hp, hd_list]
    show ((u8 _).toNat : Int) * 256 + ((u8 _).toNat : Int) = _
    rw [v, v]
    omega
  · rw [hp, hd_list]
    show ((u8 _).toNat : Int) = _
    rw [v]
    omega
  · rw [hp, hd_list]
    show ((u8 _).toNat : Int) = _
    rw [v]
    omega
  · rw [hp, hd_list]
    show (((u8 _).toNat : Int) * 256 + ((u8 _).toNat : Int)) * 65536 + (((u8 _).toNat : Int) * 256 + ((u8 _).toNat : Int)) = _
    rw [v, v, v, v]
    omega
  · rw [hp, hd_list]
    show (((u8 _).toNat : Int) * 256 + ((u8 _).toNat : Int)) * 65536 + (((u8 _).toNat : Int) * 256 + ((u8 _).toNat : Int)) = _
    rw [v, v, v, v]
    omega
  · unfold bodyF
    rw [hsz, show ((20 : Int) + (l.length : Int)).toNat = 20 + l.length by omega, hp, List.take_append, hd_len, List.take_of_length_le (by rw [hd_len]; omega), List.drop_left' (hd_len ..), Nat.add_sub_cancel_left, List.take_left' rfl]
end Go.Proofs.Ytgmeicenjgiihaa
