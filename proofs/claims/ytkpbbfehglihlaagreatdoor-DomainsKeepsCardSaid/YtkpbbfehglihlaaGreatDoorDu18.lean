/- XStMath; XTxSl; XStShape; XStReadAll -/
import Derived.Test.YtkpbbfehglihlaaGreatDoorDu09
import Derived.Test.YtkpbbfehglihlaaGreatDoorDu04
import Derived.Test.YtkpbbfehglihlaaGreatDoorDu03
import Derived.Test.YtkpbbfehglihlaaGreatDoorDu17
import Derived.Test.YtkpbbfehglihlaaGreatDoorDu05
import Derived.Test.YtkpbbfehglihlaaGreatDoorDu01
import Derived.Great.BuildSlice
import Derived.RegionTactic
import Derived.Laws.AppendOwnNone
import Derived.SliceStrings
import Derived.SizedLaws
/- What a line's words are, word by word: which line they make, or why none. -/
namespace Go.Proofs.YtkpbbfehglihlaaGreatDoor
open Go.RowKit

/-- is a text a name? -/
noncomputable def nmB (s : List UInt8) : Bool := @decide (NameOk (str s)) (Classical.propDecidable _)
theorem nmB_iff (s : List UInt8) : nmB s = true ↔ NameOk (str s) := by
  unfold nmB
  exact @decide_eq_true_iff _ (Classical.propDecidable _)
/-- an address of 48 bits that a text is -/
def mcV (s : List UInt8) : Int := Mac.rdV (str s)
def mcB (s : List UInt8) : Bool := Mac.rdB (str s)
/-- may an address be a device's? -/
def stB (m : Int) : Bool := !Mac.isHostB m && !Mac.grp m
/-- may a prefix be an interface's? -/
def snB (A B : Int) : Bool := decide (1 ≤ B) && decide (B ≤ 30) && !decide (A = FS A B) && !decide (A = LS A B)
/-- a prefix's two numbers -/
def paV (s : List UInt8) : Int := (((pfF s).getD (0, 0)).1 : Nat)
def pbV (s : List UInt8) : Int := (((pfF s).getD (0, 0)).2 : Nat)
def dash : List UInt8 := [45]
def sAccess : List UInt8 := [97, 99, 99, 101, 115, 115]
def sTrunk : List UInt8 := [116, 114, 117, 110, 107]
def sPort : List UInt8 := [112, 111, 114, 116]
/-- a list, or none of - -/
def lsD (s : List UInt8) (hi : Int) : List Int := if s = dash then [] else lsV (rdI 1 hi) s
def lsDB (s : List UInt8) (hi : Int) : Bool := if s = dash then true else lsB (rdI 1 hi) s

/-- is a word what a letter asks for? P C M V W T I A L R S -/
def wdB (c : UInt8) (s : List UInt8) : Bool :=
  if c = 80 then nB s 0 65535 else if c = 67 then nB s 1 65535 else if c = 77 then mcB s && stB (mcV s) else if c = 86 then nB s 1 4094
  else if c = 87 then nB s 1 4094 || decide (s = dash) else if c = 84 then lsDB s 4094 else if c = 73 then nB s 1 16777215
  else if c = 65 then rdB s && decide (0 < rdV s) else if c = 76 then lsB rdA s && decide (0 < (lsV rdA s).getD 0 0) else if c = 82 then lsDB s 65535
  else if c = 83 then pfB s && snB (paV s) (pbV s) else false
/-- why a word is not what a letter asks for -/
noncomputable def wdE (c : UInt8) (s : List UInt8) : Int :=
  if c = 78 then (if nmB s = true then 0 else 20) else if c = 75 then (if s = sAccess ∨ s = sTrunk then 0 else 20) else if wdB c s = true then 0 else 21
/-- a name's place in a line -/
def nmL (s : List UInt8) (k : Nat) (L : LV) : LV :=
  if k = 0 then { L with dev := s } else if L.kind = 8 ∨ L.kind = 9 then { L with name := s } else if k = 1 then { L with port := s } else if k = 2 then { L with peer := s } else if k = 3 then { L with far := s } else L
/-- what a word makes of a line -/
def wdL (c : UInt8) (s : List UInt8) (k : Nat) (L : LV) : LV :=
  if c = 78 then nmL s k L else if c = 75 then L else if c = 80 then { L with num := nV s 0 65535 } else if c = 67 then { L with cost := nV s 1 65535 } else if c = 77 then { L with mac := mcV s }
  else if c = 86 then { L with vlan := nV s 1 4094 } else if c = 87 then { L with vlan := nV s 1 4094 } else if c = 84 then { L with tagged := lsD s 4094 } else if c = 73 then { L with num := nV s 1 16777215 }
  else if c = 65 then { L with addr := rdV s } else if c = 76 then { L with addrs := lsV rdA s } else if c = 82 then { L with imports := L.exports, exports := lsD s 65535 }
  else if c = 83 then { L with addr := paV s, bits := pbV s } else L

/-- words read by their letters -/
noncomputable def runS : List UInt8 → List (List UInt8) → Nat → LV → Int × LV
  | c :: f, s :: ws, k, L => if wdE c s = 0 then runS f ws (if c = 78 then k + 1 else k) (wdL c s k L) else (wdE c s, L)
  | _, _, _, L => (0, L)

/-- the letters of a first word's line; none: 0 -/
def kdV (s : List UInt8) : Int :=
  if s = [100, 101, 118, 105, 99, 101] then 1 else if s = sPort then 2 else if s = [108, 105, 110, 107] then 3 else if s = [115, 116, 97, 116, 105, 99] then 4 else if s = [118, 116, 101, 112] then 5
  else if s = [118, 110, 105] then 6 else if s = [102, 108, 111, 111, 100] then 7 else if s = [118, 114, 102] then 8 else if s = [105, 114, 98] then 9 else 0
def wat (ws : List (List UInt8)) (i : Nat) : List UInt8 := ws.getD i []
/-- the letters of words -/
def fmV (ws : List (List UInt8)) : List UInt8 :=
  if ws = [] then [] else if kdV (wat ws 0) = 1 then [78, 80, 77] else if kdV (wat ws 0) = 3 then [78, 78, 78, 78] else if kdV (wat ws 0) = 4 then [78, 86, 77, 78] else if kdV (wat ws 0) = 5 then [78, 65]
  else if kdV (wat ws 0) = 6 then [78, 86, 73] else if kdV (wat ws 0) = 7 then [78, 73, 76] else if kdV (wat ws 0) = 8 then [78, 78, 82, 82] else if kdV (wat ws 0) = 9 then [78, 86, 78, 83]
  else if kdV (wat ws 0) = 2 then (if ws.length = 7 ∧ ¬ wat ws 4 = sAccess then [78, 78, 67, 75, 87, 84] else if ws.length = 6 ∧ ¬ wat ws 4 = sTrunk then [78, 78, 67, 75, 86] else []) else []
/-- the letters that are gone through: those of the line; of a port whose fifth word is neither: up to it; none: the words are no line -/
def ltV (ws : List (List UInt8)) : List UInt8 := if fmV ws ≠ [] ∧ ws.length = (fmV ws).length + 1 then fmV ws else []
/-- may a port's VLANs be? -/
def mbB (L : LV) : Bool := L.tagged.all (fun x => !decide (x = L.vlan)) && (decide (0 < L.vlan) || decide (0 < L.tagged.length))
def LV.new (row kind : Int) : LV := ⟨row, kind, [], [], [], [], [], 0, 0, 0, 0, 0, 0, [], [], [], []⟩
/-- why words are no line -/
noncomputable def rdE (ws : List (List UInt8)) (row : Int) : Int :=
  if ltV ws = [] then 22 else
  let r := runS (ltV ws) (ws.drop 1) 0 (LV.new row (kdV (wat ws 0)))
  if r.1 = 0 then (if r.2.kind = 2 ∧ mbB r.2 = false then 21 else 0) else r.1
/-- the line that words are -/
noncomputable def rdL (ws : List (List UInt8)) (row : Int) : LV := if rdE ws row = 0 then (runS (ltV ws) (ws.drop 1) 0 (LV.new row (kdV (wat ws 0)))).2 else LV.zero
end Go.Proofs.YtkpbbfehglihlaaGreatDoor

/- A line as data that cells read as; lists of lines. A slice of one line, laid out; a line appended to a row of the call's own. -/
namespace Go.Proofs.YtkpbbfehglihlaaGreatDoor
open Go.RowKit

/-- the cells of a line -/
def lineC (L : LV) (s1 s2 s3 s4 : SlV) : List Value := [.int .i64 L.row, .int .i64 L.kind, .string (str L.dev), .string (str L.port), .string (str L.peer), .string (str L.far), .string (str L.name), .int .u64 L.mac, .int .u32 L.addr, .int .i64 L.bits, .int .i64 L.vlan, .int .i64 L.num, .int .i64 L.cost, .slice s1.A s1.n s1.c, .slice s2.A s2.n s2.c, .slice s3.A s3.n s3.c, .slice s4.A s4.n s4.c]
end Go.Proofs.YtkpbbfehglihlaaGreatDoor

namespace Go.Proofs.YtkpbbfehglihlaaGreatDoor
open Go.RowKit

theorem Tryz.info37 : (Tryz.prog.info? 37).map (fun i => (i.zero, i.size)) = some (some (lineV LV.zero SlV.nil SlV.nil SlV.nil SlV.nil), 17) := by kernel_rfl
end Go.Proofs.YtkpbbfehglihlaaGreatDoor

/- What a line that is read is, kind by kind. -/
namespace Go.Proofs.YtkpbbfehglihlaaGreatDoor
open Go.RowKit

/-- may an address be a device's, or a station's? -/
def McOk (m : Int) : Prop := 0 ≤ m ∧ m < 281474976710656 ∧ stB m = true
/-- a list of numbers up to hi, or none -/
def LsOk (hi : Int) (xs : List Int) : Prop := xs = [] ∨ risIn xs 1 hi = true
/-! Letters. -/
/-! Kinds. -/
def Kd1 (row : Int) (L : LV) : Prop := ∃ s a m, L = { LV.new row 1 with dev := s, num := a, mac := m } ∧ nmB s = true ∧ (0 ≤ a ∧ a ≤ 65535) ∧ McOk m
def Kd2 (row : Int) (L : LV) : Prop := ∃ s p c v t, L = { LV.new row 2 with dev := s, port := p, cost := c, vlan := v, tagged := t } ∧ nmB s = true ∧ nmB p = true ∧ (1 ≤ c ∧ c ≤ 65535) ∧ (0 ≤ v ∧ v ≤ 4094) ∧ LsOk 4094 t
def Kd3 (row : Int) (L : LV) : Prop := ∃ s p q r, L = { LV.new row 3 with dev := s, port := p, peer := q, far := r } ∧ nmB s = true ∧ nmB p = true ∧ nmB q = true ∧ nmB r = true
def Kd4 (row : Int) (L : LV) : Prop := ∃ s v m p, L = { LV.new row 4 with dev := s, vlan := v, mac := m, port := p } ∧ nmB s = true ∧ (1 ≤ v ∧ v ≤ 4094) ∧ McOk m ∧ nmB p = true
def Kd5 (row : Int) (L : LV) : Prop := ∃ s a, L = { LV.new row 5 with dev := s, addr := a } ∧ nmB s = true ∧ (0 < a ∧ a ≤ 4294967295)
def Kd6 (row : Int) (L : LV) : Prop := ∃ s v a, L = { LV.new row 6 with dev := s, vlan := v, num := a } ∧ nmB s = true ∧ (1 ≤ v ∧ v ≤ 4094) ∧ (1 ≤ a ∧ a ≤ 16777215)
def Kd7 (row : Int) (L : LV) : Prop := ∃ s a x, L = { LV.new row 7 with dev := s, num := a, addrs := x } ∧ nmB s = true ∧ (1 ≤ a ∧ a ≤ 16777215) ∧ (risIn x 0 4294967295 = true ∧ 0 < x.getD 0 0)
def Kd8 (row : Int) (L : LV) : Prop := ∃ s n x y, L = { LV.new row 8 with dev := s, name := n, imports := x, exports := y } ∧ nmB s = true ∧ nmB n = true ∧ LsOk 65535 x ∧ LsOk 65535 y
def Kd9 (row : Int) (L : LV) : Prop := ∃ s v n a b, L = { LV.new row 9 with dev := s, vlan := v, name := n, addr := a, bits := b } ∧ nmB s = true ∧ (1 ≤ v ∧ v ≤ 4094) ∧ nmB n = true ∧ (snB a b = true ∧ (0 ≤ a ∧ a ≤ 4294967295) ∧ (0 ≤ b ∧ b ≤ 32))
def RdK (row : Int) (L : LV) : Prop := Kd1 row L ∨ (Kd2 row L ∧ mbB L = true) ∨ Kd3 row L ∨ Kd4 row L ∨ Kd5 row L ∨ Kd6 row L ∨ Kd7 row L ∨ Kd8 row L ∨ Kd9 row L
end Go.Proofs.YtkpbbfehglihlaaGreatDoor

/- The contract of palingref11.Read. The chapter's examples: which lines they are, or why none. -/
namespace Go.Proofs.YtkpbbfehglihlaaGreatDoor
open Go.RowKit

theorem fm_port7 {ws : List (List UInt8)} (p : wat ws 0 = sPort) (r : ws.length = 7) (g : ¬ wat ws 4 = sAccess) : fmV ws = [78, 78, 67, 75, 87, 84] := by
  have h0 : ¬ ws = [] := by intro e; subst e; cases r
  have k : kdV (wat ws 0) = 2 := by rw [p]; decide +kernel
  unfold fmV
  rw [if_neg h0, if_neg (by rw [k]; decide), if_neg (by rw [k]; decide), if_neg (by rw [k]; decide), if_neg (by rw [k]; decide), if_neg (by rw [k]; decide), if_neg (by rw [k]; decide), if_neg (by rw [k]; decide), if_neg (by rw [k]; decide), if_pos k, if_pos ⟨r, g⟩]
end Go.Proofs.YtkpbbfehglihlaaGreatDoor

namespace Go.Proofs.YtkpbbfehglihlaaGreatDoor
open Go.RowKit

def exW2 : List (List UInt8) := [[112, 111, 114, 116], [115, 119, 49], [112, 49], [52], [116, 114, 117, 110, 107], [49, 48], [49, 48, 44, 50, 48]]
def exL1 : LV := { LV.new 7 2 with dev := [115, 119, 49], port := [112, 49], cost := 4, vlan := 10 }
theorem st_itoa10 : Lib.itoa 10 = [49, 48] := by rw [show (10 : Int) = ((10 : Nat) : Int) from rfl, itoa_pos, dec_big (by omega), dec_small (by omega)]; rfl
theorem st_itoa20 : Lib.itoa 20 = [50, 48] := by rw [show (20 : Int) = ((20 : Nat) : Int) from rfl, itoa_pos, dec_big (by omega), dec_small (by omega)]; rfl
theorem st_itoa4 : Lib.itoa 4 = [52] := by rw [show (4 : Int) = ((4 : Nat) : Int) from rfl, itoa_pos, dec_small (by omega)]; rfl
theorem st_n10 : nF [49, 48] 1 4094 = some 10 := nF_iff.2 ⟨st_itoa10, by decide, by omega, by omega⟩
theorem st_n20 : nF [50, 48] 1 4094 = some 20 := nF_iff.2 ⟨st_itoa20, by decide, by omega, by omega⟩
theorem st_n4 : nF [52] 1 65535 = some 4 := nF_iff.2 ⟨st_itoa4, by decide, by omega, by omega⟩
theorem st_list : rlF (rdI 1 4094) [49, 48, 44, 50, 48] = some [10, 20] := by
  refine rlF_yes ?_ (by decide)
  rw [show splitC [49, 48, 44, 50, 48] = [[49, 48], [50, 48]] by decide]
  simp [allRd, rdI, st_n10, st_n20]
theorem st_sw1 : nmB [115, 119, 49] = true := (nmB_iff _).2 ⟨by decide, by decide, ⟨by decide, by decide⟩, fun j hj => by
  have hj2 : j < 3 := hj
  have : j = 0 ∨ j = 1 ∨ j = 2 := by omega
  rcases this with rfl | rfl | rfl
  · exact .inl ⟨by decide, by decide⟩
  · exact .inl ⟨by decide, by decide⟩
  · exact .inr ⟨by decide, by decide⟩⟩
theorem st_p1 : nmB [112, 49] = true := (nmB_iff _).2 ⟨by decide, by decide, ⟨by decide, by decide⟩, fun j hj => by
  have hj2 : j < 2 := hj
  have : j = 0 ∨ j = 1 := by omega
  rcases this with rfl | rfl
  · exact .inl ⟨by decide, by decide⟩
  · exact .inr ⟨by decide, by decide⟩⟩
theorem run_ok {c : UInt8} {f : List UInt8} {s : List UInt8} {ws : List (List UInt8)} {k : Nat} {L : LV} (h : wdE c s = 0) : runS (c :: f) (s :: ws) k L = runS f ws (if c = 78 then k + 1 else k) (wdL c s k L) := by rw [runS, if_pos h]
theorem wdE_N {s : List UInt8} (h : nmB s = true) : wdE 78 s = 0 := by show (if nmB s = true then (0 : Int) else 20) = 0; exact if_pos h
theorem wdE_num {c : UInt8} {s : List UInt8} {b : Bool} (e : wdE c s = if b = true then 0 else 21) (h : b = true) : wdE c s = 0 := by rw [e, if_pos h]
theorem wdE_K {s : List UInt8} (h : s = sAccess ∨ s = sTrunk) : wdE 75 s = 0 := by
  have e : wdE 75 s = if s = sAccess ∨ s = sTrunk then 0 else 20 := rfl
  rw [e, if_pos h]
theorem nB_of {s : List UInt8} {lo hi n : Int} (h : nF s lo hi = some n) : nB s lo hi = true ∧ nV s lo hi = n := by unfold nB nV; rw [h]; exact ⟨rfl, rfl⟩
theorem rd_of {ws : List (List UInt8)} {row : Int} {F : List UInt8} (hf : fmV ws = F) (h0 : F ≠ []) (h1 : ws.length = F.length + 1) {k : Int} (hk : kdV (wat ws 0) = k) {E : Int} {L : LV} (hr : runS F (ws.drop 1) 0 (LV.new row k) = (E, L)) :
    rdE ws row = (if E = 0 then (if L.kind = 2 ∧ mbB L = false then 21 else 0) else E) ∧ rdL ws row = if rdE ws row = 0 then L else LV.zero := by
  subst hf
  have e0 : ltV ws = fmV ws := if_pos ⟨h0, h1⟩
  constructor
  · unfold rdE
    rw [e0, if_neg h0, hk, hr]
  · unfold rdL
    rw [e0, hk, hr]
theorem ex2_run : runS [78, 78, 67, 75, 87, 84] (exW2.drop 1) 0 (LV.new 7 2) = (0, { exL1 with tagged := [10, 20] }) := by
  show runS [78, 78, 67, 75, 87, 84] [[115, 119, 49], [112, 49], [52], [116, 114, 117, 110, 107], [49, 48], [49, 48, 44, 50, 48]] 0 (LV.new 7 2) = _
  have c4 := nB_of st_n4
  have v10 := nB_of st_n10
  have hd : ¬ ([49, 48, 44, 50, 48] : List UInt8) = dash := by decide
  have t1 : lsDB [49, 48, 44, 50, 48] 4094 = true := by unfold lsDB; rw [if_neg hd]; exact (ls_yes st_list).2
  have t2 : lsD [49, 48, 44, 50, 48] 4094 = [10, 20] := by unfold lsD; rw [if_neg hd]; exact (ls_yes st_list).1
  rw [run_ok (wdE_N st_sw1), run_ok (wdE_N st_p1), run_ok (wdE_num (b := nB [52] 1 65535) rfl c4.1), run_ok (wdE_K (s := [116, 114, 117, 110, 107]) (.inr rfl)), run_ok (wdE_num (c := 87) (b := nB [49, 48] 1 4094 || decide ([49, 48] = dash)) rfl (by rw [v10.1]; rfl)), run_ok (wdE_num (c := 84) (b := lsDB [49, 48, 44, 50, 48] 4094) rfl t1)]
  show ((0 : Int), ({ LV.new 7 2 with dev := [115, 119, 49], port := [112, 49], cost := nV [52] 1 65535, vlan := nV [49, 48] 1 4094, tagged := lsD [49, 48, 44, 50, 48] 4094 } : LV)) = _
  rw [c4.2, v10.2, t2]
  rfl
theorem ex2 : rdE exW2 7 = 21 := by
  obtain ⟨h1, h2⟩ := rd_of (ws := exW2) (row := 7) (fm_port7 rfl rfl (by decide)) (by simp) rfl (show kdV (wat exW2 0) = 2 by decide +kernel) ex2_run
  rw [h1]
  decide +kernel
end Go.Proofs.YtkpbbfehglihlaaGreatDoor

