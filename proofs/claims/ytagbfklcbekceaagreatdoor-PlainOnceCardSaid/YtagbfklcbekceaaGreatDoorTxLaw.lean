/- What a text's rows come to: lines, or which row is wrong first, and why. The contract of palingref12.Read. Rows of a text one behind the other: which is wrong first, and the lines of all; what a row comes to does not hang on its place, but for its number. Two texts, one behind the other; rows without words ahead of a text, and a remark behind it. -/
import Derived.Test.YtagbfklcbekceaaGreatDoorLnRef
import Derived.Test.YtagbfklcbekceaaGreatDoorStMath
import Derived.Test.YtagbfklcbekceaaGreatDoorTxSl
import Derived.Test.YtagbfklcbekceaaGreatDoorStReadAll
namespace Go.Proofs.YtagbfklcbekceaaGreatDoor
open Go.RowKit

/-- a row's words -/
def roW (r : List UInt8) : List (List UInt8) := wsF (ahead r)
/-- why a row is no line: Words's error; none, where there are no words; else Read's -/
noncomputable def roE (r : List UInt8) (i : Nat) : Int := if wlE r = 0 then (if roW r = [] then 0 else rdE (roW r) ((i : Int) + 1)) else wlE r
/-- the lines of a row: one, or none -/
noncomputable def roL (r : List UInt8) (i : Nat) : List LV := if roW r = [] then [] else [rdL (roW r) ((i : Int) + 1)]
/-- rows read one by one: the wrong row, its error, the lines -/
noncomputable def txF : List (List UInt8) → Nat → List LV → Int × Int × List LV
  | [], _, acc => (0, 0, acc)
  | r :: rs, i, acc => if roE r i = 0 then txF rs (i + 1) (acc ++ roL r i) else ((i : Int) + 1, roE r i, [])
/-- a text read -/
noncomputable def txV (b : List UInt8) : Int × Int × List LV := if rwE b = 0 then txF (rwF b) 0 [] else (0, rwE b, [])
end Go.Proofs.YtagbfklcbekceaaGreatDoor

namespace Go.Proofs.YtagbfklcbekceaaGreatDoor
open Go.RowKit

/-- lines, a row's number and an error, as a call returns them -/
def GotText (w : World) (T : Int × Int × List LV) (e : Ending) (w' : World) : Prop := ∃ A n c, e = .returned (.tuple #[.slice A n c, .int .i64 T.1, .int .i64 T.2.1]) ∧ RSl lineR w' (allB w') A n c T.2.2 ∧ Below w.heap.size w w'
theorem txF_at {rows : List (List UInt8)} {k : Nat} {acc : List LV} (h : k < rows.length) :
    txF (rows.drop k) k acc = if roE (rows.getD k []) k = 0 then txF (rows.drop (k + 1)) (k + 1) (acc ++ roL (rows.getD k []) k) else ((k : Int) + 1, roE (rows.getD k []) k, []) := by
  have e1 : rows.drop k = rows.getD k [] :: rows.drop (k + 1) := by rw [List.drop_eq_getElem_cons h]; simp [List.getD, List.getElem?_eq_getElem h]
  rw [e1, txF]
theorem txF_end {rows : List (List UInt8)} {k : Nat} {acc : List LV} (h : rows.length ≤ k) : txF (rows.drop k) k acc = (0, 0, acc) := by
  rw [List.drop_eq_nil_of_le h]
  rfl
end Go.Proofs.YtagbfklcbekceaaGreatDoor

namespace Go.Proofs.YtagbfklcbekceaaGreatDoor
open Go.RowKit

/-- a line with another row -/
def LV.at (L : LV) (r : Int) : LV := { L with row := r }
theorem LV.at_at (L : LV) (r s : Int) : (L.at r).at s = L.at s := rfl
theorem LV.at_self (L : LV) : L.at L.row = L := rfl
theorem nmL_at (s : List UInt8) (k : Nat) (L : LV) (r : Int) : nmL s k (L.at r) = (nmL s k L).at r := by
  have hk : (L.at r).kind = L.kind := rfl
  unfold nmL
  rw [hk]
  by_cases h0 : k = 0
  · simp only [if_pos h0]; rfl
  simp only [if_neg h0]
  by_cases h1 : L.kind = 8 ∨ L.kind = 9
  · simp only [if_pos h1]; rfl
  simp only [if_neg h1]
  by_cases h2 : k = 1
  · simp only [if_pos h2]; rfl
  simp only [if_neg h2]
  by_cases h3 : k = 2
  · simp only [if_pos h3]; rfl
  simp only [if_neg h3]
  by_cases h4 : k = 3
  · simp only [if_pos h4]; rfl
  simp only [if_neg h4]
theorem wdL_at (c : UInt8) (s : List UInt8) (k : Nat) (L : LV) (r : Int) : wdL c s k (L.at r) = (wdL c s k L).at r := by
  unfold wdL
  by_cases h1 : c = 78
  · simp only [if_pos h1]; exact nmL_at s k L r
  simp only [if_neg h1]
  by_cases h2 : c = 75
  · simp only [if_pos h2]
  simp only [if_neg h2]
  by_cases h3 : c = 80
  · simp only [if_pos h3]; rfl
  simp only [if_neg h3]
  by_cases h4 : c = 67
  · simp only [if_pos h4]; rfl
  simp only [if_neg h4]
  by_cases h5 : c = 77
  · simp only [if_pos h5]; rfl
  simp only [if_neg h5]
  by_cases h6 : c = 86
  · simp only [if_pos h6]; rfl
  simp only [if_neg h6]
  by_cases h7 : c = 87
  · simp only [if_pos h7]; rfl
  simp only [if_neg h7]
  by_cases h8 : c = 84
  · simp only [if_pos h8]; rfl
  simp only [if_neg h8]
  by_cases h9 : c = 73
  · simp only [if_pos h9]; rfl
  simp only [if_neg h9]
  by_cases h10 : c = 65
  · simp only [if_pos h10]; rfl
  simp only [if_neg h10]
  by_cases h11 : c = 76
  · simp only [if_pos h11]; rfl
  simp only [if_neg h11]
  by_cases h12 : c = 82
  · simp only [if_pos h12]; rfl
  simp only [if_neg h12]
  by_cases h13 : c = 83
  · simp only [if_pos h13]; rfl
  simp only [if_neg h13]
theorem runS_at_row (r : Int) : ∀ (f : List UInt8) (ws : List (List UInt8)) (k : Nat) (L : LV), runS f ws k (L.at r) = ((runS f ws k L).1, (runS f ws k L).2.at r)
  | [], ws, k, L => by cases ws <;> rfl
  | c :: f, [], k, L => rfl
  | c :: f, s :: ws, k, L => by
    rw [runS, runS]
    by_cases h : wdE c s = 0
    · rw [if_pos h, if_pos h, wdL_at, runS_at_row r f ws _ _]
    · rw [if_neg h, if_neg h]
theorem rd_row_any (ws : List (List UInt8)) (r s : Int) : rdE ws r = rdE ws s ∧ (rdE ws s = 0 → rdL ws r = (rdL ws s).at r) := by
  have e : runS (ltV ws) (ws.drop 1) 0 (LV.new r (kdV (wat ws 0))) = ((runS (ltV ws) (ws.drop 1) 0 (LV.new s (kdV (wat ws 0)))).1, (runS (ltV ws) (ws.drop 1) 0 (LV.new s (kdV (wat ws 0)))).2.at r) :=
    runS_at_row r (ltV ws) (ws.drop 1) 0 (LV.new s (kdV (wat ws 0)))
  have h1 : rdE ws r = rdE ws s := by
    unfold rdE
    by_cases h : ltV ws = []
    · rw [if_pos h, if_pos h]
    · rw [if_neg h, if_neg h, e]
      rfl
  refine ⟨h1, fun h0 => ?_⟩
  unfold rdL
  rw [h1, if_pos h0, if_pos h0, e]
theorem roE_any (r : List UInt8) (i j : Nat) : roE r i = roE r j := by
  unfold roE
  rw [(rd_row_any (roW r) ((i : Int) + 1) ((j : Int) + 1)).1]
/-- the wrong row that comes first, from 0 on, and its error -/
noncomputable def txX : List (List UInt8) → Option (Nat × Int)
  | [] => none
  | r :: rs => if roE r 0 = 0 then (txX rs).map (fun x => (x.1 + 1, x.2)) else some (0, roE r 0)
/-- the lines of rows -/
noncomputable def txLs : List (List UInt8) → Nat → List LV
  | [], _ => []
  | r :: rs, i => roL r i ++ txLs rs (i + 1)
theorem txF_eq : ∀ (R : List (List UInt8)) (i : Nat) (acc : List LV), txF R i acc = match txX R with
    | some x => ((i : Int) + (x.1 : Int) + 1, x.2, [])
    | none => (0, 0, acc ++ txLs R i)
  | [], i, acc => by simp [txF, txX, txLs]
  | r :: rs, i, acc => by
    rw [txF, txX, txLs, roE_any r i 0]
    by_cases h : roE r 0 = 0
    · rw [if_pos h, if_pos h, txF_eq rs (i + 1) _]
      cases hx : txX rs with
      | none => simp
      | some x => simp; omega
    · rw [if_neg h, if_neg h]
      simp
theorem txX_app : ∀ (R S : List (List UInt8)), txX (R ++ S) = match txX R with
    | some x => some x
    | none => (txX S).map (fun x => (x.1 + R.length, x.2))
  | [], S => by
    show txX S = (txX S).map _
    cases txX S with
    | none => rfl
    | some x => rfl
  | r :: rs, S => by
    rw [List.cons_append, txX, txX]
    by_cases h : roE r 0 = 0
    · rw [if_pos h, if_pos h, txX_app rs S]
      cases hx : txX rs with
      | some x => rfl
      | none =>
        simp only [Option.map_none]
        cases txX S with
        | none => rfl
        | some x => simp; omega
    · rw [if_neg h, if_neg h]
theorem txLs_app : ∀ (R S : List (List UInt8)) (i : Nat), txLs (R ++ S) i = txLs R i ++ txLs S (i + R.length)
  | [], S, i => by simp [txLs]
  | r :: rs, S, i => by
    rw [List.cons_append, txLs, txLs, txLs_app rs S (i + 1), List.append_assoc, List.length_cons, show i + 1 + rs.length = i + (rs.length + 1) by omega]
/-- where no row is wrong: the lines are alike but for their rows, wherever the rows begin; and each row's number moves along -/
theorem txLs_shift : ∀ (R : List (List UInt8)) (i j : Nat), txX R = none → (txLs R i).map (fun L => (L.at 0, L.row - (i : Int))) = (txLs R j).map (fun L => (L.at 0, L.row - (j : Int)))
  | [], _, _, _ => rfl
  | r :: rs, i, j, h => by
    rw [txX] at h
    by_cases e : roE r 0 = 0
    · rw [if_pos e] at h
      have h2 : txX rs = none := by
        cases hx : txX rs with
        | none => rfl
        | some x => rw [hx] at h; cases h
      have ih := txLs_shift rs (i + 1) (j + 1) h2
      have ih2 : (txLs rs (i + 1)).map (fun L => (L.at 0, L.row - (i : Int))) = (txLs rs (j + 1)).map (fun L => (L.at 0, L.row - (j : Int))) := by
        have := congrArg (List.map fun x : LV × Int => (x.1, x.2 + 1)) ih
        rw [List.map_map, List.map_map] at this
        have key : ∀ (k : Nat) (l : List LV), l.map ((fun x : LV × Int => (x.1, x.2 + 1)) ∘ fun L => (L.at 0, L.row - ((k + 1 : Nat) : Int))) = l.map (fun L => (L.at 0, L.row - (k : Int))) := fun k l => List.map_congr_left (fun L _ => by simp; omega)
        rw [key, key] at this
        exact this
      rw [txLs, txLs, List.map_append, List.map_append, ih2]
      congr 1
      unfold roL
      by_cases hw : roW r = []
      · rw [if_pos hw, if_pos hw]
        rfl
      · rw [if_neg hw, if_neg hw]
        have hwl : wlE r = 0 := by
          unfold roE at e
          by_cases g : wlE r = 0
          · exact g
          · rw [if_neg g] at e; exact absurd e g
        have hrd : rdE (roW r) ((j : Int) + 1) = 0 := by
          have e2 := roE_any r 0 j
          rw [e] at e2
          unfold roE at e2
          rw [if_pos hwl, if_neg hw] at e2
          exact e2.symm
        have h1 := (rd_row_any (roW r) ((i : Int) + 1) ((j : Int) + 1)).2 hrd
        have rowj : (rdL (roW r) ((j : Int) + 1)).row = (j : Int) + 1 := by
          have := (rd_row_any (roW r) ((j : Int) + 1) ((j : Int) + 1)).2 hrd
          rw [this]
          rfl
        rw [h1]
        simp [LV.at, rowj]
        omega
    · rw [if_neg e] at h; cases h
end Go.Proofs.YtagbfklcbekceaaGreatDoor

namespace Go.Proofs.YtagbfklcbekceaaGreatDoor
open Go.RowKit

/-- the same lines, but for their rows? -/
def alike (xs ys : List LV) : Prop := xs.map (fun L => L.at 0) = ys.map (fun L => L.at 0)
theorem txX_ne : ∀ {R : List (List UInt8)} {x : Nat × Int}, txX R = some x → x.2 ≠ 0
  | [], x, h => by cases h
  | r :: rs, x, h => by
    rw [txX] at h
    by_cases e : roE r 0 = 0
    · rw [if_pos e] at h
      cases hx : txX rs with
      | none => rw [hx] at h; cases h
      | some y =>
        rw [hx] at h
        injection h with h
        rw [← h]
        exact txX_ne (x := y) hx
    · rw [if_neg e] at h
      injection h with h
      subst h
      exact e
/-- a text's answer, by its rows -/
theorem txV_eq {b : List UInt8} (h : rwE b = 0) : txV b = match txX (rwF b) with
    | some x => ((x.1 : Int) + 1, x.2, [])
    | none => (0, 0, txLs (rwF b) 0) := by
  unfold txV
  rw [if_pos h, txF_eq]
  cases txX (rwF b) with
  | none => rfl
  | some x => simp
theorem txLs_alike {R : List (List UInt8)} (i j : Nat) (h : txX R = none) : alike (txLs R i) (txLs R j) := by
  have := congrArg (List.map Prod.fst) (txLs_shift R i j h)
  rw [List.map_map, List.map_map] at this
  exact this

/-! Rows. -/
theorem rw_prefix (p : List (List UInt8)) : ∀ (b : List UInt8) (s : List (List UInt8) × List UInt8), b.foldl rwStep (p ++ s.1, s.2) = (p ++ (b.foldl rwStep s).1, (b.foldl rwStep s).2)
  | [], _ => rfl
  | c :: b, s => by
    rw [List.foldl_cons, List.foldl_cons]
    have e : rwStep (p ++ s.1, s.2) c = (p ++ (rwStep s c).1, (rwStep s c).2) := by
      unfold rwStep
      by_cases h : c = 10
      · rw [if_pos h, if_pos h]
        simp
      · rw [if_neg h, if_neg h]
    rw [e]
    exact rw_prefix p b (rwStep s c)
/-- the rows of a text with a byte 10 behind it -/
def rowsE (a : List UInt8) : List (List UInt8) := (rwS a).1 ++ [(rwS a).2]
theorem rwF_two (a b : List UInt8) : rwF (a ++ 10 :: b) = rowsE a ++ rwF b := by
  have e : rwS (a ++ 10 :: b) = (rowsE a ++ (rwS b).1, (rwS b).2) := by
    rw [show a ++ 10 :: b = (a ++ [10]) ++ b by simp, rwS_app, rwS_end]
    have := rw_prefix (rowsE a) b ([], [])
    rw [List.append_nil] at this
    exact this
  unfold rwF
  rw [e]
  by_cases h : (rwS b).2 = []
  · rw [if_pos h, if_pos h]
  · rw [if_neg h, if_neg h, List.append_assoc]
theorem roW_nil : roW [] = [] := by decide +kernel
theorem roE_none {r : List UInt8} (h : roW r = []) (i : Nat) : roE r i = 0 ∧ roL r i = [] := by
  have hw : wlE r = 0 := wlE_ok (by show (roW r).all wordF = true; rw [h]; rfl)
  refine ⟨by unfold roE; rw [if_pos hw, if_pos h], by unfold roL; rw [if_pos h]⟩
theorem rowsE_same (a : List UInt8) : txX (rowsE a) = txX (rwF a) ∧ ∀ i, txLs (rowsE a) i = txLs (rwF a) i := by
  unfold rowsE rwF
  by_cases h : (rwS a).2 = []
  · rw [if_pos h, h]
    refine ⟨?_, fun i => ?_⟩
    · rw [txX_app]
      cases txX (rwS a).1 with
      | some x => rfl
      | none =>
        rw [show txX [[]] = none by rw [txX, if_pos (roE_none roW_nil 0).1]; rfl]
        rfl
    · rw [txLs_app, txLs, (roE_none roW_nil _).2]
      simp [txLs]
  · rw [if_neg h]
    exact ⟨rfl, fun _ => rfl⟩
/-- two texts, one behind the other -/
theorem tx_first (a b : List UInt8) (ha : rwE a = 0) (hb : rwE b = 0) (hc : rwE (a ++ 10 :: b) = 0) :
    ((txV a).2.1 ≠ 0 → (txV (a ++ 10 :: b)).2.1 = (txV a).2.1 ∧ (txV (a ++ 10 :: b)).1 = (txV a).1) ∧
    ((txV a).2.1 = 0 → (txV b).2.1 ≠ 0 → (txV (a ++ 10 :: b)).2.1 = (txV b).2.1 ∧ 0 < (txV (a ++ 10 :: b)).1) ∧
    ((txV a).2.1 = 0 → (txV b).2.1 = 0 → (txV (a ++ 10 :: b)).2.1 = 0 ∧ alike (txV (a ++ 10 :: b)).2.2 ((txV a).2.2 ++ (txV b).2.2)) := by
  have h1 := txX_app (rowsE a) (rwF b)
  rw [(rowsE_same a).1] at h1
  rw [txV_eq ha, txV_eq hb, txV_eq hc, rwF_two, h1, txLs_app, (rowsE_same a).2]
  cases hA : txX (rwF a) with
  | some x => exact ⟨fun _ => ⟨rfl, rfl⟩, fun h => absurd h (txX_ne hA), fun h => absurd h (txX_ne hA)⟩
  | none =>
    cases hB : txX (rwF b) with
    | some y => exact ⟨fun h => absurd rfl h, fun _ _ => ⟨rfl, by show (0 : Int) < ((y.1 + (rowsE a).length : Nat) : Int) + 1; omega⟩, fun _ h => absurd h (txX_ne hB)⟩
    | none =>
      refine ⟨fun h => absurd rfl h, fun _ h => absurd rfl h, fun _ _ => ⟨rfl, ?_⟩⟩
      show alike (txLs (rwF a) 0 ++ txLs (rwF b) (0 + (rowsE a).length)) (txLs (rwF a) 0 ++ txLs (rwF b) 0)
      unfold alike
      rw [List.map_append, List.map_append]
      congr 1
      exact txLs_alike _ _ hB

/-! Rows without words ahead, a remark behind. -/
theorem roE_same {r r' : List UInt8} (h : roW r = roW r') (i : Nat) : roE r i = roE r' i ∧ roL r i = roL r' i := by
  have hw : wlE r = wlE r' := by
    show (if (roW r).all wordF = true then (0 : Int) else 20) = if (roW r').all wordF = true then 0 else 20
    rw [h]
  unfold roE roL
  rw [hw, h]
  exact ⟨rfl, rfl⟩
theorem headC_mem (l m : List UInt8) (h : (35 : UInt8) ∈ l) : headC 35 (l ++ m) = headC 35 l := by
  induction l with
  | nil => cases h
  | cons a r ih =>
    by_cases ha : a = 35
    · subst ha
      rw [List.cons_append, (headC_same 35 _).1, (headC_same 35 _).1]
    · have h2 : (35 : UInt8) ∈ r := by
        rcases List.mem_cons.1 h with e | e
        · exact absurd e.symm ha
        · exact e
      rw [List.cons_append, (headC_cons 35 a _ ha).1, (headC_cons 35 a _ ha).1, ih h2]
theorem headC_none35 (l : List UInt8) (h : (35 : UInt8) ∉ l) : headC 35 l = l := by
  induction l with
  | nil => rfl
  | cons a r ih =>
    rw [(headC_cons 35 a r (fun e => h (by simp [e]))).1, ih (fun e => h (by simp [e]))]
/-- a remark behind a row -/
theorem roW_remark (p k : List UInt8) : roW (p ++ 32 :: 35 :: k) = roW p := by
  unfold roW ahead
  by_cases h : (35 : UInt8) ∈ p
  · rw [headC_mem p _ h]
  · have e : p ++ 32 :: 35 :: k = (p ++ [32]) ++ 35 :: k := by simp
    have h2 : (35 : UInt8) ∉ p ++ [32] := by simp [h]
    rw [e, headC_app 35 _ _ h2, headC_none35 p h]
    unfold wsF
    rw [wsS_blank p 32 (.inl rfl)]
    rfl
/-- rows of a text with something behind it that has no byte 10 -/
theorem rwF_tail (b t : List UInt8) (h : (10 : UInt8) ∉ t) (h0 : t ≠ []) : rwF (b ++ t) = (rwS b).1 ++ [(rwS b).2 ++ t] := by
  have e : rwS (b ++ t) = ((rwS b).1, (rwS b).2 ++ t) := by rw [rwS_app, rw_fold t h]
  unfold rwF
  rw [e, if_neg (by simp [h0])]
/-- a text with a remark behind it -/
theorem remark_same (b k : List UInt8) (h : (10 : UInt8) ∉ k) : txX (rwF (b ++ 32 :: 35 :: k)) = txX (rwF b) ∧ ∀ i, txLs (rwF (b ++ 32 :: 35 :: k)) i = txLs (rwF b) i := by
  have e := rowsE_same b
  rw [rwF_tail b (32 :: 35 :: k) (by simp [h]) (by simp)]
  rw [← e.1]
  have one := fun i => roE_same (roW_remark (rwS b).2 k) i
  unfold rowsE
  refine ⟨?_, fun i => ?_⟩
  · rw [txX_app, txX_app]
    cases txX (rwS b).1 with
    | some x => rfl
    | none =>
      rw [show txX [(rwS b).2 ++ 32 :: 35 :: k] = txX [(rwS b).2] by rw [txX, (one 0).1]; rfl]
  · rw [← e.2 i]
    unfold rowsE
    rw [txLs_app, txLs_app, txLs, txLs, (one _).2]
    rfl
/-- d rows without words -/
def blanksF : Nat → List UInt8
  | 0 => []
  | d + 1 => blanksF d ++ [32, 9, 35, 10]
theorem blanks_rows : ∀ (d : Nat) (b : List UInt8), rwF (blanksF d ++ b) = List.replicate d [32, 9, 35] ++ rwF b
  | 0, b => rfl
  | d + 1, b => by
    have e : blanksF (d + 1) ++ b = blanksF d ++ ([32, 9, 35] ++ 10 :: b) := by simp [blanksF]
    rw [e, blanks_rows d, rwF_two, show rowsE [32, 9, 35] = [[32, 9, 35]] by decide +kernel, ← List.append_assoc, ← List.replicate_succ']
theorem blanks_none : ∀ (d i : Nat), txX (List.replicate d [32, 9, 35]) = none ∧ txLs (List.replicate d [32, 9, 35]) i = []
  | 0, i => ⟨rfl, rfl⟩
  | d + 1, i => by
    have w : roW [32, 9, 35] = [] := by decide +kernel
    rw [List.replicate_succ, txX, txLs, if_pos (roE_none w 0).1, (roE_none w i).2, (blanks_none d i).1, (blanks_none d (i + 1)).2]
    exact ⟨rfl, rfl⟩
/-- a text with d rows without words ahead of it, and a remark behind it -/
theorem tx_blanks (b k : List UInt8) (d : Nat) (h : (10 : UInt8) ∉ k) (hb : rwE b = 0) (hc : rwE (blanksF d ++ (b ++ 32 :: 35 :: k)) = 0) :
    ((txV b).2.1 ≠ 0 → (txV (blanksF d ++ (b ++ 32 :: 35 :: k))).2.1 = (txV b).2.1 ∧ (txV (blanksF d ++ (b ++ 32 :: 35 :: k))).1 = (txV b).1 + d ∧ (txV b).2.2 = [] ∧ (txV (blanksF d ++ (b ++ 32 :: 35 :: k))).2.2 = []) ∧
    ((txV b).2.1 = 0 → (txV (blanksF d ++ (b ++ 32 :: 35 :: k))).2.1 = 0 ∧ (txV b).2.2.map (fun L => (L.at 0, L.row + (d : Int))) = (txV (blanksF d ++ (b ++ 32 :: 35 :: k))).2.2.map (fun L => (L.at 0, L.row))) := by
  have r := remark_same b k h
  have h1 := txX_app (List.replicate d [32, 9, 35]) (rwF (b ++ 32 :: 35 :: k))
  rw [(blanks_none d 0).1, List.length_replicate, r.1] at h1
  rw [txV_eq hb, txV_eq hc, blanks_rows, h1, txLs_app, (blanks_none d 0).2, List.nil_append, List.length_replicate, r.2]
  cases hB : txX (rwF b) with
  | some x => exact ⟨fun _ => ⟨rfl, by show ((x.1 + d : Nat) : Int) + 1 = (x.1 : Int) + 1 + d; omega, rfl, rfl⟩, fun h => absurd h (txX_ne hB)⟩
  | none =>
    refine ⟨fun h => absurd rfl h, fun _ => ⟨rfl, ?_⟩⟩
    show (txLs (rwF b) 0).map (fun L => (L.at 0, L.row + (d : Int))) = (txLs (rwF b) (0 + d)).map (fun L => (L.at 0, L.row))
    have := congrArg (List.map fun x : LV × Int => (x.1, x.2 + (d : Int))) (txLs_shift (rwF b) 0 (0 + d) hB)
    rw [List.map_map, List.map_map] at this
    refine Eq.trans (List.map_congr_left fun L _ => ?_) (this.trans (List.map_congr_left fun L _ => ?_))
    · simp
    · simp
end Go.Proofs.YtagbfklcbekceaaGreatDoor
