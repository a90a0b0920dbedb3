/- XSeq; XCode3; XRef3; XNtRef1; XNtPeer; XNtDoms; XNtPorts; XNtLinks; XNtRest; XNtRight; XTyI -/
import Derived.Test.YtgmflecelnefcaaGreatOk01
import Derived.Test.YtgmflecelnefcaaGreatOk02
import Derived.Deep.RegionHeld
import Derived.KernelRfl
import Derived.WalkMore
import Derived.Lib.AppendIntMem
import Derived.Test.YtgmflecelnefcaaGreatShelf
import Derived.StillTailTactics
import Derived.Lib.Builder
import Derived.Laws.AppendOwnNone
import Derived.SliceStrings
import Derived.SizedLaws
import Derived.Deep.DeepCutAuto
import Derived.RegionTactic
import Derived.StillTail
import Derived.Deep.CutBlock
/- A region that draws its order, walked once, in the text's own order: where each operation yields one value in every world that meets S, and leaves a world that meets S (calls too), whatever order is drawn comes to the same, in some world that meets S. -/
namespace Go.Proofs.YtgmflecelnefcaaGreat
open Go

section
variable {P : Program} {ops : Array Oper} {Q : Exit → Act → World → Prop} {md : Region.Mode} {S : World → Prop}

/-- what an operation that was run came to: the value v, in a world that meets S -/
def StepRun (P : Program) (S : World → Prop) (v : Value) : Result Next → Prop
  | .ok (.value u) w' => u = v ∧ S w'
  | .ok .skip w' => undef = v ∧ S w'
  | .ok (.enter f args) w' => Calls P f args w' fun e w'' => e = .returned v ∧ S w''
  | _ => False
def StepS (P : Program) (ops : Array Oper) (S : World → Prop) (o : Oper) (v : Value) (a : Act) : Prop :=
  (Region.wanted o (yielded ops a.tmps) = true ∧ ∀ w, S w → StepRun P S v ((execOp a.eval o).run P w)) ∨
  (Region.wanted o (yielded ops a.tmps) = false ∧ v = undef)
theorem StepS.of_put {o : Oper} {v u : Value} {a : Act} {dst : Option Tmp} (hs : ∀ cs b, o.op ≠ .select cs b) (h : ∀ d, dst = some d → d ∉ o.looksAt ops) :
    StepS P ops S o v (a.put dst u) ↔ StepS P ops S o v a := by
  unfold StepS
  rw [execOp_put o hs a dst u h, wanted_put o a dst u h]
theorem StepS.wpOp {i : Nat} {o : Oper} {v : Value} {a : Act} (hi : ops[i]? = some o) (hy : StepS P ops S o v a) {K : Act → World → Prop} {w : World} (hS : S w) (h : ∀ w', S w' → K (a.put o.dst v) w') :
    wpOp P ops Q i K a w := by
  unfold Go.wpOp
  simp only [hi]
  rcases hy with ⟨hw, hv⟩ | ⟨hw, rfl⟩
  · simp only [hw, if_true]
    left
    have hr := hv w hS
    unfold Oper.wp
    generalize (execOp a.eval o).run P w = r at hr ⊢
    cases r with
    | ok n w' =>
      cases n with
      | value u =>
        obtain ⟨rfl, h2⟩ := hr
        exact h _ h2
      | skip =>
        obtain ⟨rfl, h2⟩ := hr
        exact h _ h2
      | enter f args => exact Calls.mono (show Calls P f args w' _ from hr) fun e w'' ⟨he, hs⟩ => by subst he; exact h _ hs
      | _ => exact (show False from hr).elim
    | halt x w' => exact (show False from hr).elim
  · simp only [hw, Bool.false_eq_true, if_false]
    exact h w hS

/-- operations are taken one by one; each may be taken first -/
def Der (P : Program) (md : Region.Mode) (ops : Array Oper) (Q : Exit → Act → World → Prop) (S : World → Prop) : Nat → Array Bool → Act → Prop
  | 0, listed, a => Region.ready md ops listed = [] ∧ ∀ w, S w → Q .normal a w
  | fuel + 1, listed, a => (Region.ready md ops listed = [] ∧ ∀ w, S w → Q .normal a w) ∨
    ∃ i oi v, ops[i]? = some oi ∧ Region.free md ops listed i = true ∧ i ∈ Region.ready md ops listed ∧ StepS P ops S oi v a ∧ Der P md ops Q S fuel (listed.setIfInBounds i true) (a.put oi.dst v)
theorem free_more {listed : Array Bool} {i j : Nat} (h : Region.free md ops listed i = true) : Region.free md ops (listed.setIfInBounds j true) i = true := by
  unfold Region.free at h ⊢
  cases ho : ops[i]? with
  | none => rw [ho] at h; exact h
  | some oi =>
    rw [ho] at h
    simp only [List.all_eq_true, List.mem_range] at h ⊢
    intro k hk
    have h1 := h k hk
    simp only [Bool.or_eq_true] at h1 ⊢
    rcases h1 with (h1 | h1) | h1
    · exact .inl (.inl h1)
    · refine .inl (.inr ?_)
      by_cases hjk : j = k
      · subst hjk
        rcases Nat.lt_or_ge j listed.size with h' | h'
        · simp [h']
        · simp
      · rw [getD_set_ne true hjk]; exact h1
    · exact .inr h1
theorem Der.swap (hsel : ∀ (j : Nat) (o : Oper) cs b, ops[j]? = some o → o.op ≠ .select cs b) : ∀ (fuel : Nat) (listed : Array Bool) (a : Act), Der P md ops Q S (fuel + 1) listed a →
    ∀ (j : Nat) (oj : Oper), ops[j]? = some oj → j ∈ Region.ready md ops listed → ∃ v, StepS P ops S oj v a ∧ Der P md ops Q S fuel (listed.setIfInBounds j true) (a.put oj.dst v) := by
  intro fuel
  induction fuel with
  | zero =>
    intro listed a D j oj hoj hj
    rcases D with ⟨hr, _⟩ | ⟨i, oi, v, hi, hf, hr, hy, D'⟩
    · rw [hr] at hj; cases hj
    · by_cases hij : j = i
      · subst hij
        rw [hi] at hoj
        cases hoj
        exact ⟨v, hy, D'⟩
      · have := ready_mono hj hij
        rw [D'.1] at this
        cases this
  | succ fuel ih =>
    intro listed a D j oj hoj hj
    rcases D with ⟨hr, _⟩ | ⟨i, oi, v, hi, hf, hr, hy, D'⟩
    · rw [hr] at hj; cases hj
    · by_cases hij : j = i
      · subst hij
        rw [hi] at hoj
        cases hoj
        exact ⟨v, hy, D'⟩
      · obtain ⟨u, hyj, D2⟩ := ih _ _ D' j oj hoj (ready_mono hj hij)
        obtain ⟨hjun, oj2, hoj2, hall⟩ := mem_ready.1 hj
        rw [hoj] at hoj2
        cases hoj2
        have hnot : ∀ e ∈ oj.after, Region.binds md e = true → e.on ≠ i := fun e he hb heq => by
          have h1 := hall e he hb
          have h0 := (mem_ready.1 hr).1
          rw [heq] at h1
          rcases Nat.lt_or_ge i listed.size with h' | h'
          · simp [h'] at h0 h1; rw [h0] at h1; cases h1
          · simp [Array.getElem?_eq_none h'] at h1
        obtain ⟨h1, h2, h3⟩ := Oper.apart_spec (Region.free_spec hi hf j oj hoj hij hjun hnot)
        refine ⟨u, (StepS.of_put (hsel j oj · · hoj) h1).1 hyj, .inr ⟨i, oi, v, hi, free_more hf, ready_mono hr (Ne.symm hij), (StepS.of_put (hsel i oi · · hi) h3).2 hy, ?_⟩⟩
        rw [Array.setIfInBounds_comm _ _ hij, ← Act.put_comm a v u h2]
        exact D2
theorem Der.any (hsel : ∀ (j : Nat) (o : Oper) cs b, ops[j]? = some o → o.op ≠ .select cs b) : ∀ (fuel : Nat) (listed : Array Bool) (a : Act), Der P md ops Q S fuel listed a → ∀ w, S w → wpAny P md ops Q fuel listed a w := by
  intro fuel
  induction fuel with
  | zero => intro listed a D w hS; exact ⟨D.1, D.2 w hS⟩
  | succ fuel ih =>
    intro listed a D w hS
    refine ⟨fun hr => ?_, fun j hj => ?_⟩
    · rcases D with ⟨_, h⟩ | ⟨i, oi, v, hi, hf, hr2, hy, D'⟩
      · exact h w hS
      · rw [hr] at hr2; cases hr2
    · obtain ⟨_, oj, hoj, _⟩ := mem_ready.1 hj
      obtain ⟨v, hy, D'⟩ := Der.swap hsel fuel listed a D j oj hoj hj
      exact hy.wpOp hoj hS (fun w' hS' => ih _ _ D' w' hS')

/-! The text's order. -/
def upto (n k : Nat) : Array Bool := ((List.range n).map fun i => decide (i < k)).toArray
theorem upto_zero (n : Nat) : upto n 0 = Array.replicate n false := by
  unfold upto
  apply Array.ext'
  simp only [Array.toList_replicate]
  apply List.ext_getElem
  · simp
  · intro i h1 h2; simp
theorem upto_set (n k : Nat) : (upto n k).setIfInBounds k true = upto n (k + 1) := by
  unfold upto
  apply Array.ext'
  rw [List.setIfInBounds_toArray]
  apply List.ext_getElem
  · simp
  · intro i h1 h2
    simp only [List.getElem_set, List.getElem_map, List.getElem_range]
    by_cases h : k = i
    · subst h; simp
    · simp [h]; omega
theorem upto_ready (k : Nat) (h : ops.size ≤ k) : Region.ready md ops (upto ops.size k) = [] := by
  rw [List.eq_nil_iff_forall_not_mem]
  intro j hj
  obtain ⟨h0, o, ho, _⟩ := mem_ready.1 hj
  have hlt := (Array.getElem?_eq_some_iff.1 ho).1
  simp [upto, hlt] at h0
  omega
/-- may each operation be taken first once all ahead of it in the text have been? -/
def textOk (md : Region.Mode) (ops : Array Oper) : Bool :=
  Region.noSelect ops && (List.range ops.size).all fun k => Region.free md ops (upto ops.size k) k && (Region.ready md ops (upto ops.size k)).contains k
/-- the operations in the text's order -/
def Seq (P : Program) (ops : Array Oper) (Q : Exit → Act → World → Prop) (S : World → Prop) : List Oper → Act → Prop
  | [], a => ∀ w, S w → Q .normal a w
  | o :: rest, a => ∃ v, StepS P ops S o v a ∧ Seq P ops Q S rest (a.put o.dst v)
theorem Seq.run {o : Oper} {rest : List Oper} {a : Act} (v : Value) (hw : Region.wanted o (yielded ops a.tmps) = true) (hr : ∀ w, S w → StepRun P S v ((execOp a.eval o).run P w)) (h : Seq P ops Q S rest (a.put o.dst v)) :
    Seq P ops Q S (o :: rest) a := ⟨v, .inl ⟨hw, hr⟩, h⟩
theorem Seq.pass {o : Oper} {rest : List Oper} {a : Act} (hw : Region.wanted o (yielded ops a.tmps) = false) (h : Seq P ops Q S rest (a.put o.dst undef)) :
    Seq P ops Q S (o :: rest) a := ⟨undef, .inr ⟨hw, rfl⟩, h⟩
theorem Seq.der (hck : textOk md ops = true) : ∀ (n k : Nat) (a : Act), k + n = ops.size → Seq P ops Q S (ops.toList.drop k) a → Der P md ops Q S n (upto ops.size k) a := by
  unfold textOk at hck
  simp only [Bool.and_eq_true, List.all_eq_true, List.mem_range] at hck
  intro n
  induction n with
  | zero =>
    intro k a hk h
    rw [List.drop_eq_nil_of_le (by simp; omega)] at h
    exact ⟨upto_ready k (by omega), h⟩
  | succ n ih =>
    intro k a hk h
    have hlt : k < ops.size := by omega
    rw [List.drop_eq_getElem_cons (by simpa using hlt)] at h
    obtain ⟨v, hs, h⟩ := h
    obtain ⟨h1, h2⟩ := hck.2 k hlt
    refine .inr ⟨k, ops[k], v, Array.getElem?_eq_getElem hlt, h1, by simpa using h2, by simpa using hs, ?_⟩
    rw [upto_set]
    exact ih (k + 1) _ (by omega) (by simpa using h)
theorem wp_region_seq {id : Nat} {a : Act} {w : World} (hm : P.follows .mixedOrders = true) (hck : textOk .any ops = true) (hS : S w.drew) (h : Seq P ops Q S ops.toList a) : (Code.region id ops true).wp P Q a w := by
  have hsel := Region.noSelect_spec (ops := ops) (by unfold textOk at hck; rw [Bool.and_eq_true] at hck; exact hck.1)
  have hd := Seq.der (md := .any) hck ops.size 0 a (by omega) (by simpa using h)
  rw [upto_zero] at hd
  exact wp_region_any hm (Der.any hsel _ _ _ hd _ hS)
theorem StepRun.val {v : Value} {w : World} (h : S w) : StepRun P S v (.ok (.value v) w) := ⟨rfl, h⟩
theorem StepRun.call {v : Value} {w : World} {f : FuncId} {args : Array Value} (h : Calls P f args w fun e w' => e = .returned v ∧ S w') : StepRun P S v (.ok (.enter f args) w) := h
theorem Seq.last {a : Act} (h : ∀ w, S w → Q .normal a w) : Seq P ops Q S [] a := h
theorem wp_region_text {l : List Oper} {id : Nat} {a : Act} {w : World} (S : World → Prop) (hm : P.follows .mixedOrders = true) (hck : textOk .any l.toArray = true) (hS : S w.drew) (h : Seq P l.toArray Q S l a) : (Code.region id l.toArray true).wp P Q a w :=
  wp_region_seq hm hck hS h
end
end Go.Proofs.YtgmflecelnefcaaGreat

/- The contract of addr.number: which number a text begins with, and what stands behind it. The contracts of strings.Cut at a separator of one byte, and of strings.CutPrefix at a dot. The contract of addr.Read: which address a text is, or that it is none. The contract of palingref02.number: a number's digits. The contract of palingref02.digits: the number that at most three digits are. The contracts of num.Text and of palingref03.Text: a number's text. The contracts of num.Read and of palingref03.Read: which number a text is, or that it is none. The contracts of rising and Rising. The contracts of num.ReadList and num.ReadAddrs: which numbers, and which addresses, a text is, or that it is none. The contracts of num.Name and of palingref03.Name: which texts are names. The contract of addr.ReadPrefix: which prefix a text is, or that it is none. The contracts of addr's functions on prefixes. The contract of addr.Within, and those of palingref02's functions on prefixes. -/
namespace Go.Proofs.YtgmflecelnefcaaGreat
open Go.RowKit

end Go.Proofs.YtgmflecelnefcaaGreat

namespace Go.Proofs.YtgmflecelnefcaaGreat
open Go.RowKit

end Go.Proofs.YtgmflecelnefcaaGreat

namespace Go.Proofs.YtgmflecelnefcaaGreat
open Go.RowKit

def rdV (l : List UInt8) : Int := ((rdF l).getD 0 : Nat)
def rdB (l : List UInt8) : Bool := (rdF l).isSome
end Go.Proofs.YtgmflecelnefcaaGreat

namespace Go.Proofs.YtgmflecelnefcaaGreat
open Go.RowKit
open Go.Lib (decDigits)

/-- a text of one byte, out of a slice that was just built -/
theorem run_string_one (w : World) (c : Int) (E : TypeId) :
    (convert 197 9 (.slice (some ⟨w.heap.size, 0, none⟩) 1 1)).run Tryz.prog (w.alloc (.cells #[.int .u8 c] E)) = .ok (.string (str [UInt8.ofNat c.toNat])) (w.alloc (.cells #[.int .u8 c] E)) := by
  rw [run_convert_bytes_string _ _ _ _ _ _ _ Tryz.underlying197 Tryz.underlying5 Tryz.underlying9]
  have hl : (loadCells ⟨w.heap.size, 0, none⟩ 1).run Tryz.prog (w.alloc (.cells #[.int .u8 c] E)) = .ok ([c].map (Value.int .u8)).toArray (w.alloc (.cells #[.int .u8 c] E)) :=
    run_loadCells_list (P := Tryz.prog) (w := w.alloc (.cells #[.int .u8 c] E)) ⟨w.heap.size, 0, none⟩ [Value.int .u8 c] (fun j v hj => by
      match j, hj with
      | 0, hj =>
        have : Value.int .u8 c = v := by simpa using hj
        subst this
        simp [Addr.add]
      | j + 1, hj => simp at hj)
  rw [run_bytesToString _ _ _ _ [c] hl]
  rfl
theorem dec_len18 {u : Nat} (h : u < 1000000000000000000) : (decDigits u).length ≤ 18 := dec_len 18 (by omega) h

theorem plus_ofNat (x : Nat) : (48 : UInt8) + UInt8.ofNat x = UInt8.ofNat (48 + x) := by simp
set_option maxRecDepth 100000 in
set_option maxHeartbeats 1000000 in
theorem refNumber_any (n : Nat) (hn : n < 1000000000000000000) (w : World) :
    Calls Tryz.prog 214 #[.int .i64 (n : Int)] w fun e w' => e = .returned (.string (str (decDigits n))) ∧ Below w.heap.size w w' := by
  have S1 := run_string_one
  have HN := Lib.hid hn
  go_enter Tryz.func214, Tryz.ntmps214
  go_wp2
  go_loopw [0, 3] (fun v s wr => ∃ (m : Nat) (t : List UInt8), v = .int .i64 (m : Int) ∧ s = .string (str t) ∧ decDigits n = decDigits m ++ t ∧ m ≤ n ∧ Below w.heap.size w wr) (fun v _ _ => (intOf v).toNat)
  case atStart => exact ⟨n, [], rfl, rfl, by simp, Nat.le_refl _, Below.refl _ _⟩
  case round =>
    obtain ⟨m, t, rfl, rfl, hd, hm, hb⟩ := hrel
    have ht : t.length ≤ 18 := by
      have h1 := congrArg List.length hd
      have h2 := dec_len18 HN.out
      simp only [List.length_append] at h1
      omega
    have HD := Lib.hid hd
    clear hd
    have hm18 : m < 1000000000000000000 := Nat.lt_of_le_of_lt hm HN.out
    by_cases h10 : 10 ≤ m
    · have HE := Lib.hid (show decDigits m = decDigits (m / 10) ++ [UInt8.ofNat (48 + m % 10)] from dec_big (by omega))
      go_wp2
      go_roundw
      case rel => exact ⟨m / 10, [48 + UInt8.ofNat (m % 10)] ++ t, by go_num, by rw [str_append], by rw [HD.out, HE.out, plus_ofNat, List.append_assoc], by omega, hb.alloc hb.size _⟩
      case measure => simp [intOf]; omega
    · have HE := Lib.hid (show decDigits n = [48 + UInt8.ofNat m] ++ t by rw [HD.out, dec_small (by omega), plus_ofNat])
      go_wp2
      go_ret
      exact ⟨by rw [HE.out, ← str_append]; rfl, hb.alloc hb.size _⟩
end Go.Proofs.YtgmflecelnefcaaGreat

namespace Go.Proofs.YtgmflecelnefcaaGreat
open Go.RowKit
open Go.Lib (decDigits)

end Go.Proofs.YtgmflecelnefcaaGreat

namespace Go.Proofs.YtgmflecelnefcaaGreat
open Go.RowKit
open Go.Lib (decDigits itoa)

end Go.Proofs.YtgmflecelnefcaaGreat

namespace Go.Proofs.YtgmflecelnefcaaGreat
open Go.RowKit
open Go.Lib (decDigits itoa atoiAll)

def nV (l : List UInt8) (lo hi : Int) : Int := (nF l lo hi).getD 0
def nB (l : List UInt8) (lo hi : Int) : Bool := (nF l lo hi).isSome
end Go.Proofs.YtgmflecelnefcaaGreat

namespace Go.Proofs.YtgmflecelnefcaaGreat
open Go.RowKit

set_option maxHeartbeats 1000000 in
theorem rising_any (A : Option Addr) (n c : Nat) (xs : List Int) (w : World) (h : ISl w .i64 A n c xs) :
    Calls Tryz.prog 154 #[.slice A n c] w fun e w' => e = .returned (.bool (risB xs)) ∧ Drew w w' := by
  have hle := h.le
  have hcap := h.cap
  have H := Lib.hid h
  clear h
  by_cases h1 : n < 1
  · have E := Lib.hid (risB_no xs (.inl (by rw [H.out.len]; exact h1)))
    go_enter Tryz.func154, Tryz.ntmps154
    go_wp2
    go_ret
    exact ⟨by rw [E.out]; rfl, Drew.refl _⟩
  by_cases h2 : 16 < n
  · have E := Lib.hid (risB_no xs (.inr (by rw [H.out.len]; exact h2)))
    go_enter Tryz.func154, Tryz.ntmps154
    go_wp2
    go_ret
    exact ⟨by rw [E.out]; rfl, Drew.refl _⟩
  obtain ⟨b, off, rfl, hb, hc⟩ := H.out.2.2.2 (by omega)
  have HC := Lib.hid hc
  clear hc
  go_enter Tryz.func154, Tryz.ntmps154
  go_wp2
  go_loopw [3] (fun i wr => ∃ k : Nat, 1 ≤ k ∧ k ≤ n ∧ i = .int .i64 (k : Int) ∧ Up xs k ∧ Drew w wr) (fun i _ => n - (intOf i).toNat)
  case atStart => exact ⟨1, by omega, by omega, rfl, Up.one _, Drew.refl _⟩
  case round =>
    obtain ⟨k, hk1, hk, rfl, hup, m, rfl⟩ := hrel
    have U := Lib.hid hup
    clear hup
    by_cases hlt : k < n
    · have c0 : w.cell? ⟨b, off + k, none⟩ = some (.int .i64 (xs.getD k 0)) := HC.out k hlt
      have c1 : w.cell? ⟨b, off + (k - 1), none⟩ = some (.int .i64 (xs.getD (k - 1) 0)) := HC.out (k - 1) (by omega)
      generalize hx : xs.getD k 0 = x at c0
      generalize hy : xs.getD (k - 1) 0 = y at c1
      have HX := Lib.hid hx
      have HY := Lib.hid hy
      clear hx hy
      have d1 : IntKind.i64.wrap ((k : Int) - 1) = (k : Int) - 1 := IntWalk.i64_in _ (by omega)
      have d2 : (0 : Int) ≤ (k : Int) - 1 := by omega
      have d3 : ((k : Int) - 1).toNat = k - 1 := by omega
      have d4 : (k : Int) - 1 < (n : Int) := by omega
      by_cases hle2 : x ≤ y
      · have E := Lib.hid (risB_down (xs := xs) (k := k) (by omega) (by rw [H.out.len]; exact hlt) (by rw [HX.out, HY.out]; exact hle2))
        go_wp2
        go_quiet (fail)
        go_wp2
        go_ret
        exact ⟨by rw [E.out]; rfl, ⟨m + nq, by rw [drewN_add]⟩⟩
      · have E := Lib.hid (U.out.next (by rw [HX.out, HY.out]; omega))
        go_wp2
        go_quiet (fail)
        clear d1 d2 d3 d4
        go_wp2
        go_roundw
        case rel => exact ⟨k + 1, by omega, by omega, by go_num, E.out, ⟨m + nq, rfl⟩⟩
        case measure => simp [intOf]; omega
    · obtain rfl : k = n := by omega
      have E := Lib.hid (show risB xs = true from (risB_iff xs).2 ⟨by rw [H.out.len]; omega, by rw [H.out.len]; omega, by rw [H.out.len]; exact U.out⟩)
      go_wp2
      go_ret
      exact ⟨by rw [E.out]; rfl, ⟨m, rfl⟩⟩
set_option maxHeartbeats 1000000 in
theorem ris_any (A : Option Addr) (n c : Nat) (xs : List Int) (lo hi : Int) (w : World) (h : ISl w .i64 A n c xs) :
    Calls Tryz.prog 133 #[.slice A n c, .int .i64 lo, .int .i64 hi] w fun e w' => e = .returned (.bool (risIn xs lo hi)) ∧ Drew w w' := by
  have hle := h.le
  have hcap := h.cap
  have H := Lib.hid h
  clear h
  cases hr : risB xs with
  | false =>
    have E := Lib.hid (show risIn xs lo hi = false by simp [risIn, hr])
    have HR := Lib.hid hr
    clear hr
    go_enter Tryz.func133, Tryz.ntmps133
    go_wp2_with (go_at_call 154; refine (rising_any _ _ _ _ _ H.out).mono ?_; rintro e w1 ⟨rfl, hd1⟩; rw [HR.out])
    go_ret
    exact ⟨by rw [E.out]; rfl, hd1⟩
  | true =>
    obtain ⟨l1, l2, _⟩ := (risB_iff xs).1 hr
    have hn := H.out.len
    obtain ⟨b, off, rfl, hb, hc⟩ := H.out.2.2.2 (by omega)
    have E := risIn_ends xs lo hi hr
    rw [hn] at E l1
    have c0 : w.cell? ⟨b, off + 0, none⟩ = some (.int .i64 (xs.getD 0 0)) := hc 0 (by omega)
    have c1 : w.cell? ⟨b, off + (n - 1), none⟩ = some (.int .i64 (xs.getD (n - 1) 0)) := hc (n - 1) (by omega)
    generalize xs.getD 0 0 = x at c0 E
    generalize xs.getD (n - 1) 0 = y at c1 E
    rw [Nat.add_zero] at c0
    have HC0 := Lib.hid c0
    have HC1 := Lib.hid c1
    have HR := Lib.hid hr
    have EE := Lib.hid (show risIn xs lo hi = (decide (lo ≤ x) && decide (y ≤ hi)) by rw [← E]; simp [risIn, hr])
    have d3 : ((n : Int) - 1).toNat = n - 1 := by omega
    clear hc c0 c1 hr E hn
    go_enter Tryz.func133, Tryz.ntmps133
    by_cases k1 : lo ≤ x
    · have K1 := Lib.hid k1
      by_cases k2 : y ≤ hi
      · go_wp2_with (go_at_call 154; refine (rising_any _ _ _ _ _ H.out).mono ?_; rintro e w1 ⟨rfl, m, rfl⟩; rw [HR.out]; have c0 := HC0.out; have c1 := HC1.out)
        go_ret
        exact ⟨by rw [EE.out]; simp [k1, k2], ⟨m, rfl⟩⟩
      · go_wp2_with (go_at_call 154; refine (rising_any _ _ _ _ _ H.out).mono ?_; rintro e w1 ⟨rfl, m, rfl⟩; rw [HR.out]; have c0 := HC0.out; have c1 := HC1.out)
        go_ret
        exact ⟨by rw [EE.out]; have := K1.out; simp; omega, ⟨m, rfl⟩⟩
    · go_wp2_with (go_at_call 154; refine (rising_any _ _ _ _ _ H.out).mono ?_; rintro e w1 ⟨rfl, m, rfl⟩; rw [HR.out]; have c0 := HC0.out)
      go_ret
      exact ⟨by rw [EE.out]; simp; omega, ⟨m, rfl⟩⟩
end Go.Proofs.YtgmflecelnefcaaGreat

namespace Go.Proofs.YtgmflecelnefcaaGreat
open Go.RowKit
open Go.Lib (decDigits itoa atoiAll)

def lsV (rd : List UInt8 → Option Int) (l : List UInt8) : List Int := (rlF rd l).getD []
def lsB (rd : List UInt8 → Option Int) (l : List UInt8) : Bool := (rlF rd l).isSome
theorem ls_yes {rd : List UInt8 → Option Int} {l : List UInt8} {xs : List Int} (h : rlF rd l = some xs) : lsV rd l = xs ∧ lsB rd l = true := by unfold lsV lsB; rw [h]; exact ⟨rfl, rfl⟩
/-! An item. -/
abbrev rdI (lo hi : Int) (l : List UInt8) : Option Int := nF l lo hi
def rdA (l : List UInt8) : Option Int := (rdF l).map fun n => (n : Int)
theorem Tryz.info3 : (Tryz.prog.info? 3).map (fun i => (i.zero, i.size, i.bytes)) = some (some (.int .i64 0), 1, 8) := by kernel_rfl
theorem Tryz.info33 : (Tryz.prog.info? 33).map (fun i => (i.zero, i.size, i.bytes)) = some (some (.int .u32 0), 1, 4) := by kernel_rfl
end Go.Proofs.YtgmflecelnefcaaGreat

namespace Go.Proofs.YtgmflecelnefcaaGreat
open Go.RowKit

def Lc (x : Int) : Prop := 97 ≤ x ∧ x ≤ 122
def Dc (x : Int) : Prop := 48 ≤ x ∧ x ≤ 57
/-- 1 to 12 bytes, the first of which is a letter, and all others are such, or digits -/
def NameOk (s : ByteArray) : Prop := 1 ≤ s.size ∧ s.size ≤ 12 ∧ Lc (sb s 0) ∧ ∀ j, j < s.size → Lc (sb s j) ∨ Dc (sb s j)
theorem letter_yes (x : Int) (h1 : 97 ≤ x) (h2 : x ≤ 122) (w : World) : Calls Tryz.prog 182 #[.int .u8 x] w fun e w' => e = .returned (.bool true) ∧ w = w' := by
  go_enter Tryz.func182, Tryz.ntmps182
  go_wp2
  go_ret
  exact ⟨rfl, rfl⟩
theorem letter_no (x : Int) (h : ¬ Lc x) (w : World) : Calls Tryz.prog 182 #[.int .u8 x] w fun e w' => e = .returned (.bool false) ∧ w = w' := by
  unfold Lc at h
  by_cases h1 : 97 ≤ x
  · have h2 : ¬ x ≤ 122 := fun h2 => h ⟨h1, h2⟩
    clear h
    go_enter Tryz.func182, Tryz.ntmps182
    go_wp2
    go_ret
    exact ⟨rfl, rfl⟩
  · clear h
    go_enter Tryz.func182, Tryz.ntmps182
    go_wp2
    go_ret
    exact ⟨rfl, rfl⟩
theorem digit_yes (x : Int) (h1 : 48 ≤ x) (h2 : x ≤ 57) (w : World) : Calls Tryz.prog 183 #[.int .u8 x] w fun e w' => e = .returned (.bool true) ∧ w = w' := by
  go_enter Tryz.func183, Tryz.ntmps183
  go_wp2
  go_ret
  exact ⟨rfl, rfl⟩
theorem digit_no (x : Int) (h : ¬ Dc x) (w : World) : Calls Tryz.prog 183 #[.int .u8 x] w fun e w' => e = .returned (.bool false) ∧ w = w' := by
  unfold Dc at h
  by_cases h1 : 48 ≤ x
  · have h2 : ¬ x ≤ 57 := fun h2 => h ⟨h1, h2⟩
    clear h
    go_enter Tryz.func183, Tryz.ntmps183
    go_wp2
    go_ret
    exact ⟨rfl, rfl⟩
  · clear h
    go_enter Tryz.func183, Tryz.ntmps183
    go_wp2
    go_ret
    exact ⟨rfl, rfl⟩
set_option maxRecDepth 100000 in
set_option maxHeartbeats 1000000 in
theorem name_any (s : ByteArray) (w : World) (hs : s.size ≤ maxLen) (v : Bool) (hv : v = true ↔ NameOk s) :
    Calls Tryz.prog 173 #[.string s] w fun e w' => e = .returned (.bool v) ∧ w = w' := by
  unfold maxLen at hs
  have no : ¬ NameOk s → Hid (v = false) := fun h => Lib.hid (by cases v with | false => rfl | true => exact absurd (hv.1 rfl) h)
  have yes : NameOk s → Hid (v = true) := fun h => Lib.hid (hv.2 h)
  have NO := Lib.hid no
  have YES := Lib.hid yes
  clear no yes hv
  by_cases h1 : s.size < 1
  · have E := NO.out (fun h => by have := h.1; omega)
    go_enter Tryz.func173, Tryz.ntmps173
    go_wp2
    go_ret
    exact ⟨by rw [E.out]; rfl, rfl⟩
  by_cases h2 : 12 < s.size
  · have E := NO.out (fun h => by have := h.2.1; omega)
    go_enter Tryz.func173, Tryz.ntmps173
    go_wp2
    go_ret
    exact ⟨by rw [E.out]; rfl, rfl⟩
  have x0 := run_index_sb s 0 0 rfl (by omega)
  by_cases h3 : Lc (sb s 0)
  · have L0 := Lib.hid h3
    obtain ⟨a1, a2⟩ := h3
    go_enter Tryz.func173, Tryz.ntmps173
    go_wp2_with (go_at_call 182; refine (letter_yes _ a1 a2 _).mono ?_; rintro e w' ⟨rfl, rfl⟩)
    clear x0 a1 a2
    go_loop [20] (fun i => ∃ k : Nat, k ≤ s.size ∧ i = .int .i64 (k : Int) ∧ ∀ j, j < k → Lc (sb s j) ∨ Dc (sb s j)) (fun i => s.size - (intOf i).toNat)
    case atStart => exact ⟨0, by omega, rfl, fun j hj => by omega⟩
    case round =>
      obtain ⟨k, hk, rfl, hall⟩ := hrel
      have A := Lib.hid hall
      clear hall
      by_cases hlt : k < s.size
      · have x1 := run_index_sb s k k rfl hlt
        by_cases hL : Lc (sb s k)
        · have HL := Lib.hid hL
          obtain ⟨b1, b2⟩ := hL
          go_wp2_with (go_at_call 182; refine (letter_yes _ b1 b2 _).mono ?_; rintro e w' ⟨rfl, rfl⟩)
          go_round
          case rel => exact ⟨k + 1, by omega, by go_num, fun j hj => by
            by_cases e : j = k
            · subst e; exact .inl HL.out
            · exact A.out j (by omega)⟩
          case measure => simp [intOf]; omega
        · have HNL := Lib.hid hL
          by_cases hD : Dc (sb s k)
          · have HD := Lib.hid hD
            obtain ⟨b1, b2⟩ := hD
            clear hL
            go_wp2_with (first
              | (go_at_call 182; refine (letter_no _ HNL.out _).mono ?_; rintro e w' ⟨rfl, rfl⟩)
              | (go_at_call 183; refine (digit_yes _ b1 b2 _).mono ?_; rintro e w' ⟨rfl, rfl⟩))
            go_round
            case rel => exact ⟨k + 1, by omega, by go_num, fun j hj => by
              by_cases e : j = k
              · subst e; exact .inr HD.out
              · exact A.out j (by omega)⟩
            case measure => simp [intOf]; omega
          · have HND := Lib.hid hD
            have E := NO.out (fun h => (h.2.2.2 k hlt).elim HNL.out HND.out)
            clear hL hD
            go_wp2_with (first
              | (go_at_call 182; refine (letter_no _ HNL.out _).mono ?_; rintro e w' ⟨rfl, rfl⟩)
              | (go_at_call 183; refine (digit_no _ HND.out _).mono ?_; rintro e w' ⟨rfl, rfl⟩))
            go_ret
            exact ⟨by rw [E.out]; rfl, rfl⟩
      · have E := YES.out ⟨by omega, by omega, L0.out, fun j hj => A.out j (by omega)⟩
        go_wp2
        go_ret
        exact ⟨by rw [E.out]; rfl, rfl⟩
  · have HN := Lib.hid h3
    have E := NO.out (fun h => HN.out h.2.2.1)
    clear h3
    go_enter Tryz.func173, Tryz.ntmps173
    go_wp2_with (go_at_call 182; refine (letter_no _ HN.out _).mono ?_; rintro e w' ⟨rfl, rfl⟩)
    go_ret
    exact ⟨by rw [E.out]; rfl, rfl⟩

end Go.Proofs.YtgmflecelnefcaaGreat

namespace Go.Proofs.YtgmflecelnefcaaGreat
open Go.RowKit

def pfB (l : List UInt8) : Bool := (pfF l).isSome
end Go.Proofs.YtgmflecelnefcaaGreat

namespace Go.Proofs.YtgmflecelnefcaaGreat
open Go.RowKit

/-- the two cells of a prefix in a block of the call's own, and what was there is as it was -/
theorem boxed_keep {w W w' : World} {b : Nat} {x y : Value} (hb : Below W.heap.size W w') (h : W.cell? ⟨b, 0, none⟩ = some x ∧ W.cell? ⟨b, 1, none⟩ = some y ∧ Below w.heap.size w W ∧ b < W.heap.size) :
    w'.cell? ⟨b, 0, none⟩ = some x ∧ w'.cell? ⟨b, 1, none⟩ = some y ∧ Below w.heap.size w w' ∧ b < w'.heap.size :=
  ⟨(hb.cell (p := ⟨b, 0, none⟩) h.2.2.2).trans h.1, (hb.cell (p := ⟨b, 1, none⟩) h.2.2.2).trans h.2.1, h.2.2.1.trans (hb.mono h.2.2.1.size), Nat.lt_of_lt_of_le h.2.2.2 hb.size⟩
theorem boxed_drew {w W : World} {b : Nat} {x y : Value} (h0 : W.cell? ⟨b, 0, none⟩ = some x) (h1 : W.cell? ⟨b, 1, none⟩ = some y) (hB : Below w.heap.size w W) (hl : b < W.heap.size) :
    W.drew.cell? ⟨b, 0, none⟩ = some x ∧ W.drew.cell? ⟨b, 1, none⟩ = some y ∧ Below w.heap.size w W.drew ∧ b < W.drew.heap.size :=
  ⟨h0, h1, ⟨hB.os, hB.tape, hB.output, hB.size, hB.block⟩, hl⟩
/-- behind a first call: the box of a prefix is as it was -/
theorem boxed_first {w w1 : World} {x y : Value} {T : TypeId} (hb1 : Below (w.alloc (.cells #[x, y] T)).heap.size (w.alloc (.cells #[x, y] T)) w1) :
    w1.cell? ⟨w.heap.size, 0, none⟩ = some x ∧ w1.cell? ⟨w.heap.size, 1, none⟩ = some y ∧ Below w.heap.size w w1 ∧ w.heap.size < w1.heap.size := by
  have hz : w.heap.size < (w.alloc (.cells #[x, y] T)).heap.size := by simp
  have h0 := hb1.cell (p := ⟨w.heap.size, 0, none⟩) hz
  have h1 := hb1.cell (p := ⟨w.heap.size, 1, none⟩) hz
  refine ⟨by rw [h0]; simp, by rw [h1]; simp, ((Below.refl w.heap.size w).alloc (Nat.le_refl _) _).trans (hb1.mono (by simp)), Nat.lt_of_lt_of_le hz hb1.size⟩

theorem right_any (A B : Int) (w : World) : Calls Tryz.prog 199 #[.agg #[.int .u32 A, .int .i64 B]] w fun e w' => e = .returned (.bool (RT B)) ∧ Below w.heap.size w w' := by
  by_cases h0 : 0 ≤ B
  · by_cases h1 : B ≤ 32
    · have e := Lib.hid (show RT B = true by simp [RT]; omega)
      go_enter Tryz.func199, Tryz.ntmps199
      go_wp2
      go_ret
      exact ⟨by rw [e.out]; rfl, (Below.refl _ _).alloc (Nat.le_refl _) _⟩
    · have e := Lib.hid (show RT B = false by simp [RT]; omega)
      go_enter Tryz.func199, Tryz.ntmps199
      go_wp2
      go_ret
      exact ⟨by rw [e.out]; rfl, (Below.refl _ _).alloc (Nat.le_refl _) _⟩
  · have e := Lib.hid (show RT B = false by simp [RT]; omega)
    go_enter Tryz.func199, Tryz.ntmps199
    go_wp2
    go_ret
    exact ⟨by rw [e.out]; rfl, (Below.refl _ _).alloc (Nat.le_refl _) _⟩
theorem right_is (A B : Int) (v : Bool) (h : RT B = v) (w : World) : Calls Tryz.prog 199 #[.agg #[.int .u32 A, .int .i64 B]] w fun e w' => e = .returned (.bool v) ∧ Below w.heap.size w w' := by
  have := right_any A B w
  rw [h] at this
  exact this
theorem free_any (A : Int) (b : Nat) (hb : b ≤ 32) (w : World) : Calls Tryz.prog 200 #[.agg #[.int .u32 A, .int .i64 (b : Int)]] w fun e w' => e = .returned (.int .u32 ((sz b - 1 : Nat) : Int)) ∧ Below w.heap.size w w' := by
  have e := Lib.hid (free_eq b hb)
  go_enter Tryz.func200, Tryz.ntmps200
  go_wp2
  go_ret
  exact ⟨by rw [← e.out]; simp, (Below.refl _ _).alloc (Nat.le_refl _) _⟩
theorem first_no (A B : Int) (hr : RT B = false) (w : World) : Calls Tryz.prog 186 #[.agg #[.int .u32 A, .int .i64 B]] w fun e w' => e = .returned (.int .u32 0) ∧ Below w.heap.size w w' := by
  go_enter Tryz.func186, Tryz.ntmps186
  go_wp2_with (go_at_call 199; refine (right_is A B false hr _).mono ?_; rintro e w1 ⟨rfl, hb1⟩)
  go_ret
  exact ⟨rfl, ((Below.refl _ _).alloc (Nat.le_refl _) _).trans (hb1.mono (by simp))⟩
set_option maxHeartbeats 1000000 in
theorem first_yes (A b : Nat) (hA : A < 4294967296) (hb : b ≤ 32) (w : World) : Calls Tryz.prog 186 #[.agg #[.int .u32 (A : Int), .int .i64 (b : Int)]] w fun e w' => e = .returned (.int .u32 (fsN A b : Nat)) ∧ Below w.heap.size w w' := by
  have hr : RT (b : Int) = true := by rw [RT_iff]; omega
  have hsz := sz_le b
  have hsp := sz_pos b
  have e1 := u32_andNot (A : Int) ((sz b - 1 : Nat) : Int) (by omega) (by omega) (by omega) (by omega)
  have e2 := Lib.hid (show (((A : Int).toNat &&& (4294967295 - ((sz b - 1 : Nat) : Int).toNat) : Nat) : Int) = ((fsN A b : Nat) : Int) by
    have := and_high A (32 - b) hA (by omega)
    rw [show (A : Int).toNat = A by omega, show ((sz b - 1 : Nat) : Int).toNat = sz b - 1 by omega]
    unfold fsN sz
    rw [this])
  rw [e2.out] at e1
  go_enter Tryz.func186, Tryz.ntmps186
  go_wp2_with (go_at_call 199; refine (right_is A b true hr _).mono ?_; rintro e w1 ⟨rfl, hb1⟩; obtain ⟨hc0, hc1, hB1, hl1⟩ := boxed_first hb1)
  go_region_held3 (fun w' => w'.cell? ⟨w.heap.size, 0, none⟩ = some (.int .u32 (A : Int)) ∧ w'.cell? ⟨w.heap.size, 1, none⟩ = some (.int .i64 (b : Int)) ∧ Below w.heap.size w w' ∧ w.heap.size < w'.heap.size) (first | exact boxed_keep (by assumption) (by assumption) | exact boxed_drew hc0 hc1 hB1 hl1)
    (first | (go_at_call 200; refine (free_any A b hb _).mono ?_; rintro e w2 ⟨rfl, hb2⟩))
  all_goals
    go_wp2
    go_ret
    exact ⟨rfl, (boxed_keep (by assumption) (boxed_drew hc0 hc1 hB1 hl1)).2.2.1⟩
theorem last_no (A B : Int) (hr : RT B = false) (w : World) : Calls Tryz.prog 187 #[.agg #[.int .u32 A, .int .i64 B]] w fun e w' => e = .returned (.int .u32 0) ∧ Below w.heap.size w w' := by
  go_enter Tryz.func187, Tryz.ntmps187
  go_wp2_with (go_at_call 199; refine (right_is A B false hr _).mono ?_; rintro e w1 ⟨rfl, hb1⟩)
  go_ret
  exact ⟨rfl, ((Below.refl _ _).alloc (Nat.le_refl _) _).trans (hb1.mono (by simp))⟩
set_option maxHeartbeats 1000000 in
theorem last_yes (A b : Nat) (hA : A < 4294967296) (hb : b ≤ 32) (w : World) : Calls Tryz.prog 187 #[.agg #[.int .u32 (A : Int), .int .i64 (b : Int)]] w fun e w' => e = .returned (.int .u32 (lsN A b : Nat)) ∧ Below w.heap.size w w' := by
  have hr : RT (b : Int) = true := by rw [RT_iff]; omega
  have hsz := sz_le b
  have hsp := sz_pos b
  have e1 := u32_or (A : Int) ((sz b - 1 : Nat) : Int) (by omega) (by omega) (by omega) (by omega)
  have e2 := Lib.hid (show (((A : Int).toNat ||| ((sz b - 1 : Nat) : Int).toNat : Nat) : Int) = ((lsN A b : Nat) : Int) by
    have := or_low A (32 - b)
    rw [show (A : Int).toNat = A by omega, show ((sz b - 1 : Nat) : Int).toNat = sz b - 1 by omega]
    unfold lsN sz
    rw [this])
  rw [e2.out] at e1
  go_enter Tryz.func187, Tryz.ntmps187
  go_wp2_with (go_at_call 199; refine (right_is A b true hr _).mono ?_; rintro e w1 ⟨rfl, hb1⟩; obtain ⟨hc0, hc1, hB1, hl1⟩ := boxed_first hb1)
  go_region_held3 (fun w' => w'.cell? ⟨w.heap.size, 0, none⟩ = some (.int .u32 (A : Int)) ∧ w'.cell? ⟨w.heap.size, 1, none⟩ = some (.int .i64 (b : Int)) ∧ Below w.heap.size w w' ∧ w.heap.size < w'.heap.size) (first | exact boxed_keep (by assumption) (by assumption) | exact boxed_drew hc0 hc1 hB1 hl1)
    (first | (go_at_call 200; refine (free_any A b hb _).mono ?_; rintro e w2 ⟨rfl, hb2⟩))
  all_goals
    go_wp2
    go_ret
    exact ⟨rfl, (boxed_keep (by assumption) (boxed_drew hc0 hc1 hB1 hl1)).2.2.1⟩
end Go.Proofs.YtgmflecelnefcaaGreat

namespace Go.Proofs.YtgmflecelnefcaaGreat
open Go.RowKit

/-! palingref02 -/
end Go.Proofs.YtgmflecelnefcaaGreat

/- The contract of palingref03.Split: what stands between commas. The contract of palingref03.Read: which number a text is, or that it is none. The contract of palingref02.Read: which address a text is, or that it is none. The contracts of palingref03's lists: Rising, ReadList, ReadAddrs, Ints, Addrs. The contracts of palingref03.ReadList and palingref03.ReadAddrs. The contract of palingref02.ReadPrefix: which prefix a text is, or that it is none. The contracts of palingref02's functions on prefixes: First, Last, Has, Within. The least and the greatest address of any prefix: the contracts, whole. -/
namespace Go.Proofs.YtgmflecelnefcaaGreat
open Go.RowKit

end Go.Proofs.YtgmflecelnefcaaGreat

namespace Go.Proofs.YtgmflecelnefcaaGreat
open Go.RowKit
open Go.Lib (decDigits itoa atoiAll)

end Go.Proofs.YtgmflecelnefcaaGreat

namespace Go.Proofs.YtgmflecelnefcaaGreat
open Go.RowKit
open Go.Lib (decDigits)

end Go.Proofs.YtgmflecelnefcaaGreat

namespace Go.Proofs.YtgmflecelnefcaaGreat
open Go.RowKit

end Go.Proofs.YtgmflecelnefcaaGreat

namespace Go.Proofs.YtgmflecelnefcaaGreat
open Go.RowKit

end Go.Proofs.YtgmflecelnefcaaGreat

namespace Go.Proofs.YtgmflecelnefcaaGreat
open Go.RowKit
open Go.Lib (decDigits)

end Go.Proofs.YtgmflecelnefcaaGreat

namespace Go.Proofs.YtgmflecelnefcaaGreat
open Go.RowKit

/-- between the least and the greatest: two tests -/
theorem HS_two (A b x : Nat) (hb : b ≤ 32) : HS (A : Int) (b : Int) (x : Int) = (decide (fsN A b ≤ x) && decide (x ≤ lsN A b)) := by
  have hr : RT (b : Int) = true := by rw [RT_iff]; omega
  unfold HS
  rw [hr, Bool.true_and, Bool.eq_iff_iff]
  simp only [Int.toNat_natCast, decide_eq_true_eq, Bool.and_eq_true]
  exact has_iff A b x
end Go.Proofs.YtgmflecelnefcaaGreat

namespace Go.Proofs.YtgmflecelnefcaaGreat
open Go.RowKit


theorem FS_no {A B : Int} (h : RT B = false) : FS A B = 0 := by simp [FS, h]
theorem LS_no {A B : Int} (h : RT B = false) : LS A B = 0 := by simp [LS, h]
theorem FS_yes (a b : Nat) (hb : b ≤ 32) : FS (a : Int) (b : Int) = (fsN a b : Nat) := by
  have hr : RT (b : Int) = true := by rw [RT_iff]; omega
  simp [FS, hr]
theorem LS_yes (a b : Nat) (hb : b ≤ 32) : LS (a : Int) (b : Int) = (lsN a b : Nat) := by
  have hr : RT (b : Int) = true := by rw [RT_iff]; omega
  simp [LS, hr]
theorem first_all (A B : Int) (h0 : 0 ≤ A) (h1 : A < 4294967296) (w : World) : Calls Tryz.prog 186 #[.agg #[.int .u32 A, .int .i64 B]] w fun e w' => e = .returned (.int .u32 (FS A B)) ∧ Below w.heap.size w w' := by
  cases hr : RT B with
  | false => rw [FS_no hr]; exact first_no A B hr w
  | true =>
    obtain ⟨b, rfl, hb⟩ := RT_nat hr
    obtain ⟨a, rfl⟩ := Int.eq_ofNat_of_zero_le h0
    rw [FS_yes a b hb]
    exact first_yes a b (by omega) hb w
theorem last_all (A B : Int) (h0 : 0 ≤ A) (h1 : A < 4294967296) (w : World) : Calls Tryz.prog 187 #[.agg #[.int .u32 A, .int .i64 B]] w fun e w' => e = .returned (.int .u32 (LS A B)) ∧ Below w.heap.size w w' := by
  cases hr : RT B with
  | false => rw [LS_no hr]; exact last_no A B hr w
  | true =>
    obtain ⟨b, rfl, hb⟩ := RT_nat hr
    obtain ⟨a, rfl⟩ := Int.eq_ofNat_of_zero_le h0
    rw [LS_yes a b hb]
    exact last_yes a b (by omega) hb w
end Go.Proofs.YtgmflecelnefcaaGreat

/- palingref15's small functions: Place, In, rising, Member, At; lists of numbers compared (Ints, Addrs of any two). -/
namespace Go.Proofs.YtgmflecelnefcaaGreat
open Go.RowKit

/-- a slice of numbers reads as numbers -/
theorem isl_rsl {k : IntKind} {w : World} {F : Nat → Prop} {A : Option Addr} {n c : Nat} {xs : List Int} (h : RSl (Rdr.int k) w F A n c xs) : ISl w k A n c xs :=
  ⟨h.1, h.2.1, h.2.2.1, fun hn => by
    obtain ⟨b, off, e, _, hl, hc⟩ := h.2.2.2.2 hn
    refine ⟨b, off, e, hl, fun j hj => ?_⟩
    have hlt : j < xs.length := by rw [h.1]; exact hj
    obtain ⟨vs, rfl, h2⟩ := hc j xs[j] (List.getElem?_eq_getElem hlt)
    have h3 := h2 0 (.int k xs[j]) rfl
    rw [show off + j * (Rdr.int k).n + 0 = off + j by show off + j * 1 + 0 = off + j; omega] at h3
    rw [h3]
    simp [List.getD, hlt]⟩
/-- a net's box -/
structure NBox (w : World) (q : Nat) (S : NSl3) : Prop where
  c0 : w.cell? ⟨q, 0, none⟩ = some (.slice S.dv.A S.dv.n S.dv.c)
  c1 : w.cell? ⟨q, 1, none⟩ = some (.slice S.pt.A S.pt.n S.pt.c)
  c2 : w.cell? ⟨q, 2, none⟩ = some (.slice S.lk.A S.lk.n S.lk.c)
  c3 : w.cell? ⟨q, 3, none⟩ = some (.slice S.dm.A S.dm.n S.dm.c)
  c4 : w.cell? ⟨q, 4, none⟩ = some (.slice S.st.A S.st.n S.st.c)
  c5 : w.cell? ⟨q, 5, none⟩ = some (.slice S.fl.A S.fl.n S.fl.c)
  c6 : w.cell? ⟨q, 6, none⟩ = some (.slice S.vr.A S.vr.n S.vr.c)
  c7 : w.cell? ⟨q, 7, none⟩ = some (.slice S.ir.A S.ir.n S.ir.c)
  lt : q < w.heap.size
theorem NBox.new (w : World) (S : NSl3) (T : TypeId) : NBox (w.alloc (.cells (nA S) T)) w.heap.size S := by
  constructor <;> simp
theorem NBox.below {w w' : World} {q : Nat} {S : NSl3} (h : NBox w q S) (hb : Below w.heap.size w w') : NBox w' q S :=
  ⟨(hb.cell (p := ⟨q, 0, none⟩) h.lt).trans h.c0, (hb.cell (p := ⟨q, 1, none⟩) h.lt).trans h.c1, (hb.cell (p := ⟨q, 2, none⟩) h.lt).trans h.c2, (hb.cell (p := ⟨q, 3, none⟩) h.lt).trans h.c3, (hb.cell (p := ⟨q, 4, none⟩) h.lt).trans h.c4, (hb.cell (p := ⟨q, 5, none⟩) h.lt).trans h.c5, (hb.cell (p := ⟨q, 6, none⟩) h.lt).trans h.c6, (hb.cell (p := ⟨q, 7, none⟩) h.lt).trans h.c7, Nat.lt_of_lt_of_le h.lt hb.size⟩

/-- is it a place of a list of so many? -/
def plB (i m : Int) : Bool := decide (0 ≤ i) && decide (i < m)
theorem plB_iff (i m : Int) : plB i m = true ↔ 0 ≤ i ∧ i < m := by unfold plB; simp
/-- is a number in a list? -/
def memB (xs : List Int) (x : Int) : Bool := decide (x ∈ xs)
theorem memB_take {xs : List Int} {k : Nat} {x : Int} (h : k < xs.length) (ha : x ∉ xs.take k) (hx : xs.getD k 0 ≠ x) : x ∉ xs.take (k + 1) := by
  rw [List.take_succ_eq_append_getElem h]
  intro hm
  rcases List.mem_append.1 hm with hm | hm
  · exact ha hm
  · have := List.mem_singleton.1 hm
    exact hx (by rw [this]; simp [List.getD, h])
/-- none, or rising from 1 on? -/
def rsB (xs : List Int) (hi : Int) : Bool := decide (xs = []) || risIn xs 1 hi
/-- has a port a VLAN? -/
def mbrB (p : PortV) (v : Int) : Bool := decide (v ≠ 0) && (decide (p.native = v) || memB p.tagged v)
/-- the first domain of a device and a VLAN, from number k on -/
def atK : List DomV → Int → Int → Nat → Int
  | [], _, _, _ => -1
  | d :: r, dev, v, k => if d.dev = dev ∧ d.vlan = v then (k : Int) else atK r dev v (k + 1)
def atF (N : NV) (dev v : Int) : Int := atK N.domains dev v 0
end Go.Proofs.YtgmflecelnefcaaGreat

/- The contract of palingref15.peer: may a domain have that peer? (Made by mk-ntpeer.py.) -/
namespace Go.Proofs.YtgmflecelnefcaaGreat
open Go.RowKit

/-- may a domain, at place i, have that peer? -/
def peerB (N : NV) (i : Nat) (k : Int) : Bool :=
  plB k (N.domains.length : Int) && (!decide (k = (i : Int)) && (decide ((N.domains.getD i DomV.zero).dev ≠ (N.domains.getD k.toNat DomV.zero).dev) && (decide ((N.domains.getD i DomV.zero).vni = (N.domains.getD k.toNat DomV.zero).vni) && (decide ((N.domains.getD i DomV.zero).vni ≠ 0) &&
    (decide ((N.devices.getD (N.domains.getD i DomV.zero).dev.toNat DevV.zero).vtep ≠ 0) && (decide ((N.devices.getD (N.domains.getD k.toNat DomV.zero).dev.toNat DevV.zero).vtep ≠ 0) && memB (N.domains.getD k.toNat DomV.zero).peers (i : Int)))))))
end Go.Proofs.YtgmflecelnefcaaGreat

/- The contract of palingref15.domains: may all domains be? (Made by mk-ntdoms.py.) -/
namespace Go.Proofs.YtgmflecelnefcaaGreat
open Go.RowKit

/-- may a domain be, at place i, but for its peers? -/
structure DomOk (N : NV) (i : Nat) (D : DomV) : Prop where
  dev : plB D.dev (N.devices.length : Int) = true
  vlan : 1 ≤ D.vlan ∧ D.vlan ≤ 4094
  vni : 0 ≤ D.vni ∧ D.vni < 16777216
  one : atF N D.dev D.vlan = (i : Int)
  irb : D.irb = -1 ∨ (plB D.irb (N.irbs.length : Int) = true ∧ (N.irbs.getD D.irb.toNat IrbV.zero).dom = (i : Int))
/-- its peers -/
def PeersOk (N : NV) (i : Nat) (D : DomV) : Prop := ∀ j, j < D.peers.length → peerB N i (D.peers.getD j 0) = true ∧ memB (D.peers.take j) (D.peers.getD j 0) = false
def DomsOk (N : NV) : Prop := (∀ i, i < N.domains.length → DomOk N i (N.domains.getD i DomV.zero)) ∧ ∀ i, i < N.domains.length → PeersOk N i (N.domains.getD i DomV.zero)
theorem isl_take {w : World} {k : IntKind} {A : Option Addr} {n c j : Nat} {xs : List Int} (h : ISl w k A n c xs) (hj : j ≤ n) : ISl w k A j c (xs.take j) :=
  ⟨by rw [List.length_take, h.1]; omega, Nat.le_trans hj h.2.1, h.2.2.1, fun hn => by
    obtain ⟨b, off, e, hl, hc⟩ := h.2.2.2 (by omega)
    refine ⟨b, off, e, hl, fun i hi => ?_⟩
    rw [hc i (by omega)]
    simp [List.getD, hi]⟩
end Go.Proofs.YtgmflecelnefcaaGreat

/- The contract of palingref15.ports: may all ports be? (Made by mk-ntports.py.) -/
namespace Go.Proofs.YtgmflecelnefcaaGreat
open Go.RowKit

/-- may a port be, at place i? -/
structure PortOk (N : NV) (i : Nat) (P : PortV) : Prop where
  dev : plB P.dev (N.devices.length : Int) = true
  lo : 0 ≤ P.native
  hi : P.native ≤ 4094
  tag : rsB P.tagged 4094 = true
  out : memB P.tagged P.native = false
  one : ¬ (P.native = 0 ∧ P.tagged = [])
  dom : 0 < P.native → 0 ≤ atF N P.dev P.native
  doms : ∀ j, j < P.tagged.length → 0 ≤ atF N P.dev (P.tagged.getD j 0)
  link : P.link = -1 ∨ (plB P.link (N.links.length : Int) = true ∧ ((N.links.getD P.link.toNat LinkV.zero).a = (i : Int) ∨ (N.links.getD P.link.toNat LinkV.zero).b = (i : Int)))
end Go.Proofs.YtgmflecelnefcaaGreat

/- The contracts of palingref15.links and palingref15.peer: may all links be; may a domain have that peer? (Made by mk-ntlinks.py.) -/
namespace Go.Proofs.YtgmflecelnefcaaGreat
open Go.RowKit

/-- may a link be, at place i? -/
structure LinkOk (N : NV) (i : Nat) (L : LinkV) : Prop where
  a : plB L.a (N.ports.length : Int) = true
  b : plB L.b (N.ports.length : Int) = true
  dev : (N.ports.getD L.a.toNat PortV.zero).dev ≠ (N.ports.getD L.b.toNat PortV.zero).dev
  la : (N.ports.getD L.a.toNat PortV.zero).link = (i : Int)
  lb : (N.ports.getD L.b.toNat PortV.zero).link = (i : Int)
end Go.Proofs.YtgmflecelnefcaaGreat

/- The contract of palingref15.rest: may statics, floods, VRFs and interfaces be? (Made by mk-ntrest.py.) -/
namespace Go.Proofs.YtgmflecelnefcaaGreat
open Go.RowKit

structure StatOk (N : NV) (T : StatV) : Prop where
  dom : plB T.dom (N.domains.length : Int) = true
  port : plB T.port (N.ports.length : Int) = true
  dev : (N.ports.getD T.port.toNat PortV.zero).dev = (N.domains.getD T.dom.toNat DomV.zero).dev
  mbr : mbrB (N.ports.getD T.port.toNat PortV.zero) (N.domains.getD T.dom.toNat DomV.zero).vlan = true
structure FloodOk (N : NV) (T : FloodV) : Prop where
  dev : plB T.dev (N.devices.length : Int) = true
  most : T.addrs.length ≤ 16
structure VrfOk (N : NV) (T : VrfV) : Prop where
  dev : plB T.dev (N.devices.length : Int) = true
  imp : rsB T.imports 65535 = true
  exp : rsB T.exports 65535 = true
structure IrbOk (N : NV) (i : Nat) (T : IrbV) : Prop where
  dom : plB T.dom (N.domains.length : Int) = true
  vrf : plB T.vrf (N.vrfs.length : Int) = true
  bits : 1 ≤ T.bits ∧ T.bits ≤ 30
  dev : (N.domains.getD T.dom.toNat DomV.zero).dev = (N.vrfs.getD T.vrf.toNat VrfV.zero).dev
  irb : (N.domains.getD T.dom.toNat DomV.zero).irb = (i : Int)
structure RestOk (N : NV) : Prop where
  st : ∀ i, i < N.statics.length → StatOk N (N.statics.getD i StatV.zero)
  fl : ∀ i, i < N.floods.length → FloodOk N (N.floods.getD i FloodV.zero)
  vr : ∀ i, i < N.vrfs.length → VrfOk N (N.vrfs.getD i VrfV.zero)
  ir : ∀ i, i < N.irbs.length → IrbOk N i (N.irbs.getD i IrbV.zero)
end Go.Proofs.YtgmflecelnefcaaGreat

/- The contract of palingref15.Right: may the net be? (Made by mk-ntright.py.) -/
namespace Go.Proofs.YtgmflecelnefcaaGreat
open Go.RowKit

/-- may the net be? -/
structure NetOk (N : NV) : Prop where
  zdv : N.devices.length ≤ 8
  zpt : N.ports.length ≤ 40
  zlk : N.links.length ≤ 20
  zdm : N.domains.length ≤ 48
  zst : N.statics.length ≤ 64
  zfl : N.floods.length ≤ 48
  zvr : N.vrfs.length ≤ 16
  zir : N.irbs.length ≤ 48
  dm : DomsOk N
  pt : ∀ i, i < N.ports.length → PortOk N i (N.ports.getD i PortV.zero)
  lk : ∀ i, i < N.links.length → LinkOk N i (N.links.getD i LinkV.zero)
  rs : RestOk N
noncomputable def netB (N : NV) : Bool := @decide (NetOk N) (Classical.propDecidable _)
theorem netB_yes {N : NV} (h : NetOk N) : netB N = true := by
  unfold netB
  exact @decide_eq_true _ (Classical.propDecidable _) h
theorem netB_iff (N : NV) : netB N = true ↔ NetOk N := by
  unfold netB
  exact @decide_eq_true_iff _ (Classical.propDecidable _)
end Go.Proofs.YtgmflecelnefcaaGreat

/- Blocks that hold numbers (ints, uint32s): told by their element type. -/
namespace Go.Proofs.YtgmflecelnefcaaGreat
open Go.RowKit

/-- a block that holds numbers -/
def TyI (w : World) (b : Nat) : Prop := ∃ cur T, w.heap[b]? = some (.cells cur T) ∧ (T = 3 ∨ T = 33)
theorem TyI.lt {w : World} {b : Nat} (h : TyI w b) : b < w.heap.size := by
  obtain ⟨cur, T, h, _⟩ := h
  rcases Nat.lt_or_ge b w.heap.size with h' | h'
  · exact h'
  · rw [Array.getElem?_eq_none h'] at h; cases h
theorem TyI.same {w w' : World} {b : Nat} (h : TyI w b) (e : w'.heap[b]? = w.heap[b]?) : TyI w' b := by
  obtain ⟨cur, T, h, g⟩ := h
  exact ⟨cur, T, e.trans h, g⟩
theorem TyI.below {w w' : World} {b : Nat} (h : TyI w b) (hb : Below w.heap.size w w') : TyI w' b := h.same (hb.block b h.lt)
theorem TyI.live {w : World} {b : Nat} (h : TyI w b) (o : Nat) : w.frozen? ⟨b, o, none⟩ = false := by
  obtain ⟨cur, T, h, _⟩ := h
  simp [World.frozen?, h]
theorem own_ty {w : World} {B : Nat} {e : TypeId} {A : Option Addr} {n m c sz : Nat} {xs : List Value} (h : w.ownsRow B e sz (.slice A n c) m xs) (he : e = 3 ∨ e = 33) : ∀ ad, A = some ad → B ≤ ad.block ∧ TyI w ad.block := fun ad hA => by
  rcases h.2 with ⟨hv, _⟩ | ⟨g, cap, cur, hv, hB, hh, _⟩
  · injection hv with e1; rw [hA] at e1; cases e1
  · injection hv with e1
    rw [hA] at e1
    cases e1
    exact ⟨hB, cur, e, hh, he⟩
end Go.Proofs.YtgmflecelnefcaaGreat

