/- Appending bytes that came in, nil or not, onto bytes of the call's own; the contracts of Put. -/
import Derived.Test.YtiafhjjnihpaaaaTakePut
import Derived.Laws.AppendOwnNone
import Derived.Deep.RegionHeld
namespace Go.Proofs.Ytiafhjjnihpaaaa
open Go.RowKit

/-- The slice's elements read as xs: it is nil, or they lie from its address on. -/
def Src (w : World) (A : Option Addr) (n c : Nat) (xs : List Value) : Prop :=
  xs.length = n ∧ ((A = none ∧ n = 0 ∧ c = 0) ∨ ∃ ad, A = some ad ∧ ∀ j u, xs[j]? = some u → w.cell? (ad.add j) = some u)
theorem Src.alloc {w : World} {A : Option Addr} {n c : Nat} {xs : List Value} (h : Src w A n c xs) (o : Obj) : Src (w.alloc o) A n c xs := by
  refine ⟨h.1, ?_⟩
  rcases h.2 with hn | ⟨ad, e, hc⟩
  · exact .inl hn
  · exact .inr ⟨ad, e, fun j u hu => by rw [World.cell?_alloc_some w _ o (by rw [hc j u hu]; rfl)]; exact hc j u hu⟩
theorem block_of_cell {w : World} {p : Addr} {u : Value} (h : w.cell? p = some u) : p.block < w.heap.size := by
  rcases Nat.lt_or_ge p.block w.heap.size with hlt | hge
  · exact hlt
  · simp [World.cell?, Array.getElem?_eq_none hge] at h
theorem Src.below {w w' : World} {A : Option Addr} {n c : Nat} {xs : List Value} (h : Src w A n c xs) (hb : Below w.heap.size w w') : Src w' A n c xs := by
  refine ⟨h.1, ?_⟩
  rcases h.2 with hn | ⟨ad, e, hc⟩
  · exact .inl hn
  · exact .inr ⟨ad, e, fun j u hu => by rw [hb.cell (block_of_cell (hc j u hu))]; exact hc j u hu⟩
theorem Src.drew {w : World} {A : Option Addr} {n c : Nat} {xs : List Value} (h : Src w A n c xs) : Src w.drew A n c xs := h
theorem Src.own {w : World} {B : Nat} {A : Option Addr} {n c : Nat} {xs : List Value} {e : TypeId} (h : w.ownsRow B e 1 (.slice A n c) n xs) : Src w A n c xs := by
  refine ⟨by rw [h.1, Nat.mul_one], ?_⟩
  rcases h.2 with ⟨hv, hn⟩ | ⟨g, cap, cur, hv, _⟩
  · injection hv with h1 h2 h3
    exact .inl ⟨h1, hn, h3⟩
  · injection hv with h1 h2 h3
    subst h1
    exact .inr ⟨_, rfl, h.cells rfl⟩

/-- append onto a row of the call's own, whatever the source's shape -/
theorem wpList_app {P : Program} {w : World} {ops : Array Oper} {rest : List Oper} {o : Oper} {a : Act} {Q : Exit → Act → World → Prop} (hgd : o.guard = none) (s x : Operand) (t : TypeId)
    (ho : o.op = .call { callee := .builtin .append, args := #[s, x], argTypes := #[t, t] })
    (base : Nat) (e : TypeId) (i : TypeInfo) (z : Value) (bytes : Nat) (ht : P.underlying t = some (.slice e)) (hi : P.info? e = some i) (hz : i.zero = some z)
    (hsize : i.size = 1) (hby : i.bytes = bytes) (hzs : z.cells.size = 1)
    (v : Value) (n : Nat) (xs : List Value) (hs : a.eval s = v) (hown : w.ownsRow base e 1 v n xs)
    (A : Option Addr) (m c : Nat) (news : List Value) (hx : a.eval x = .slice A m c) (hsrc : Src w A m c news) (h1 : ∀ u ∈ news, u.oneCell' = true)
    (h63 : n + m ≤ maxLen) (hbytes : (n + m) * bytes ≤ 140737488355328) (hbase : base ≤ w.heap.size)
    (h : ∀ v' w', w'.ownsRow base e 1 v' (n + m) (xs ++ news) → w.grownBy w' v.ownBlock → wpList P ops Q rest (a.put o.dst v') w') : wpList P ops Q (o :: rest) a w := by
  rcases hsrc.2 with ⟨rfl, rfl, rfl⟩ | ⟨ad, rfl, hc⟩
  · have hn : news = [] := List.eq_nil_of_length_eq_zero hsrc.1
    subst hn
    exact wpList_append_own_none hgd s x t ho base e i 1 ht hi v n xs hs hown hx (h v w (by simpa using hown) (World.grownBy.refl _ _))
  · exact wpList_append_own w hgd s x t ho base e i z 1 bytes ht hi hz hsize hby hzs (by decide) v n xs hs hown ad m c news hx (by rw [hsrc.1, Nat.mul_one]) hc h1 h63 hbytes hbase (fun v' w' h2 h3 _ => h v' w' h2 h3)

/-- the same at a step of a region that draws its order, guarded or not -/
theorem step_app {P : Program} {w : World} {ops : Array Oper} {o : Oper} {a : Act} {K : Act → World → Prop} {Q : Exit → Act → World → Prop} {E : Prop} (hw : Region.wanted o (yielded ops a.tmps) = true) (s x : Operand) (t : TypeId)
    (ho : o.op = .call { callee := .builtin .append, args := #[s, x], argTypes := #[t, t] })
    (base : Nat) (e : TypeId) (i : TypeInfo) (z : Value) (bytes : Nat) (ht : P.underlying t = some (.slice e)) (hi : P.info? e = some i) (hz : i.zero = some z)
    (hsize : i.size = 1) (hby : i.bytes = bytes) (hzs : z.cells.size = 1)
    (v : Value) (n : Nat) (xs : List Value) (hs : a.eval s = v) (hown : w.ownsRow base e 1 v n xs)
    (A : Option Addr) (m c : Nat) (news : List Value) (hx : a.eval x = .slice A m c) (hsrc : Src w A m c news) (h1 : ∀ u ∈ news, u.oneCell' = true)
    (h63 : n + m ≤ maxLen) (hbytes : (n + m) * bytes ≤ 140737488355328) (hbase : base ≤ w.heap.size)
    (h : ∀ v' w', w'.ownsRow base e 1 v' (n + m) (xs ++ news) → w.grownBy w' v.ownBlock → K (a.put o.dst v') w') : if Region.wanted o (yielded ops a.tmps) = true then Oper.wp P o a w K Q else E := by
  rw [if_pos hw]
  rcases hsrc.2 with ⟨rfl, rfl, rfl⟩ | ⟨ad, rfl, hc⟩
  · have hn : news = [] := List.eq_nil_of_length_eq_zero hsrc.1
    subst hn
    have hrun := run_append_owned_none (P := P) (w := w) base t o.type e i 1 ht hi v n xs hown
    have hk := h v w (by simpa using hown) (World.grownBy.refl _ _)
    unfold Oper.wp
    simp [execOp, ho, resolve, invoke, builtin, hs, hx, hrun, Result.andThen]
    exact hk
  · exact wp_append_own w s x t ho base e i z 1 bytes ht hi hz hsize hby hzs (by decide) v n xs hs hown ad m c news hx (by rw [hsrc.1, Nat.mul_one]) hc h1 h63 hbytes hbase (fun v' w' h2 h3 _ => h v' w' h2 h3)

theorem own_below {w w' : World} {B : Nat} {e : TypeId} {v : Value} {n : Nat} {xs : List Value} (h : w.ownsRow B e 1 v n xs) (hb : Below w.heap.size w w') : w'.ownsRow B e 1 v n xs :=
  h.kept (row := none) ⟨hb.os, hb.tape, hb.output, hb.size, fun k hk _ => hb.block k hk⟩ (by cases hx : v.ownBlock <;> simp)

theorem ints_one (ns : List Int) : ∀ u ∈ ns.map (Value.int .u8), u.oneCell' = true := ints_oneCell .u8 ns

theorem put_more {a wr w1 : World} {m : Int} {n k : Nat} {bs : List Int} {u v : Value} {o1 : Obj} (hbel : Below a.heap.size a wr)
    (hown : wr.ownsRow a.heap.size 5 1 u (n + k) ((bs ++ bytesPre m k).map (Value.int .u8)))
    (hown1 : w1.ownsRow a.heap.size 5 1 v (n + k + 1) ((bs ++ bytesPre m k).map (Value.int .u8) ++ [.int .u8 (byt m k)]))
    (hg1 : (wr.alloc o1).grownBy w1 u.ownBlock) :
    w1.ownsRow a.heap.size 5 1 v (n + (k + 1)) ((bs ++ bytesPre m (k + 1)).map (Value.int .u8)) ∧ Below a.heap.size a w1 := by
  have b1 := below_app (hbel.alloc hbel.size o1) (hown.alloc o1) hg1
  exact ⟨by simpa [bytesPre, Nat.add_assoc] using hown1, b1⟩

set_option maxHeartbeats 800000 in
theorem put_any (A : Option Addr) (n c : Nat) (bs : List Int) (m : Int) (w : World) (hn : n ≤ 1000000) (hsrc : Src w A n c (bs.map (Value.int .u8))) :
    Calls Try.prog 21 #[.slice A n c, .int .u64 m] w fun e w' => ∃ v, e = .returned v ∧ w'.ownsRow w.heap.size 5 1 v (n + 6) ((bs ++ bytesPre m 6).map (Value.int .u8)) ∧ Below w.heap.size w w' := by
  obtain ⟨i0, hi, hz0, hz1, hz2⟩ := info_parts Try.info5
  have Hi := Lib.hid hi; have Hz0 := Lib.hid hz0; have Hz1 := Lib.hid hz1; have Hz2 := Lib.hid hz2
  have Hs := Lib.hid hsrc
  clear hi hz0 hz1 hz2 hsrc
  go_enter Try.func21, Try.ntmps21
  go_wp2_with (first
    | (at_make; refine wpList_make_own _ rfl _ _ 34 rfl w.heap.size 5 i0 (.int .u8 0) 1 Try.underlying34 Hi.out Hz0.out Hz1.out .i64 .i64 _ (n + 6) rfl rfl (by omega) (by rw [Hz2.out]; omega) (by unfold maxLen; omega) (Nat.le_refl _) ?_; intro w0 hown0 hgrow0; have hb0 : Below w.heap.size w w0 := (Below.refl _ _).grown hgrow0 (Nat.le_refl _) (fun _ h => by cases h))
    | (at_builtin; refine wpList_app rfl (.tmp 10) (.tmp 11) 34 rfl w.heap.size 5 i0 (.int .u8 0) 1 Try.underlying34 Hi.out Hz0.out Hz1.out Hz2.out rfl _ _ _ (by rfl) hown0 A n c (bs.map (Value.int .u8)) (by rfl) (Hs.out.below hb0) (ints_one bs) (by unfold maxLen; omega) (by omega) hb0.size ?_; intro v1 w1 hown1 hgrow1; have hb1 := below_app hb0 hown0 hgrow1))
  have hlen := Hs.out.1
  rw [List.length_map] at hlen
  have hown1' : w1.ownsRow w.heap.size 5 1 v1 (n + 0) ((bs ++ bytesPre m 0).map (Value.int .u8)) := by simpa [bytesPre] using hown1
  have HL := Lib.hid hlen
  clear hown1 hgrow1 hown0 hgrow0 hb0 hlen
  go_loopw [5, 13] (fun v i wr => ∃ k : Nat, k ≤ 6 ∧ i = .int .i64 k ∧ wr.ownsRow w.heap.size 5 1 v (n + k) ((bs ++ bytesPre m k).map (Value.int .u8)) ∧ Below w.heap.size w wr) (fun _ i _ => 6 - (intOf i).toNat)
  case atStart => exact ⟨0, by omega, rfl, hown1', hb1⟩
  case round =>
    clear hown1' hb1
    obtain ⟨k, hk, rfl, hown, hbel⟩ := hrel
    by_cases hlt : k < 6
    · go_wp2_with (first
        | (go_at_call 24; refine (byteAt_any _ _ _ hlt).mono ?_; rintro e w' ⟨rfl, rfl⟩)
        | (at_builtin; refine wpList_append_lies _ rfl (.tmp 16) (.tmp 20) 34 rfl w.heap.size 5 i0 (.int .u8 0) 1 1 Try.underlying34 Hi.out Hz0.out Hz1.out Hz2.out rfl (by decide) _ _ _ (by rfl) (hown.alloc _) ⟨wr.heap.size, 0, none⟩ 1 1 [.int .u8 (byt m k)] (by rfl) rfl (World.news_of_block (heap_alloc_new wr _)) (by simp [Value.oneCell']) (by omega) (by unfold maxLen; omega) (by omega) (by have := hbel.size; simp; omega) _ rfl ?_; intro g cap w2 hown2 hgrow2 _ _))
      have hend := put_more hbel hown hown2 hgrow2
      clear hbel hown hown2 hgrow2
      go_wp2
      go_roundw
      case rel => exact ⟨k + 1, by omega, by go_num, hend.1, hend.2⟩
      case measure => simp [intOf]; omega
    · obtain rfl : k = 6 := by omega
      go_wp2
      go_ret
      exact ⟨_, rfl, hown, hbel⟩

set_option maxHeartbeats 800000 in
theorem refPut_any (A : Option Addr) (n c : Nat) (bs : List Int) (m : Int) (w : World) (hn : n ≤ 1000000) (h0 : 0 ≤ m) (h1 : m < 18446744073709551616) (hsrc : Src w A n c (bs.map (Value.int .u8))) :
    Calls Try.prog 22 #[.slice A n c, .int .u64 m] w fun e w' => ∃ v, e = .returned v ∧ w'.ownsRow w.heap.size 5 1 v (n + 6) ((bs ++ bytesPre m 6).map (Value.int .u8)) ∧ Below w.heap.size w w' := by
  obtain ⟨i0, hi, hz0, hz1, hz2⟩ := info_parts Try.info5
  have Hi := Lib.hid hi; have Hz0 := Lib.hid hz0; have Hz1 := Lib.hid hz1; have Hz2 := Lib.hid hz2
  have Hs := Lib.hid hsrc
  have hownE : (w.alloc (.cells #[] 5)).ownsRow w.heap.size 5 1 (.slice (some ⟨w.heap.size, 0, none⟩) 0 0) 0 [] := World.ownsRow_lit w #[] 0 (Nat.le_refl _) (by unfold maxLen; omega) rfl
  have HE := Lib.hid hownE
  have HB := Lib.hid ((Below.refl w.heap.size w).alloc (Nat.le_refl _) (.cells #[] 5))
  clear hi hz0 hz1 hz2 hsrc hownE
  go_enter Try.func22, Try.ntmps22
  go_wp2_with (first
    | (at_builtin; refine wpList_app rfl (.tmp 5) (.tmp 6) 34 rfl w.heap.size 5 i0 (.int .u8 0) 1 Try.underlying34 Hi.out Hz0.out Hz1.out Hz2.out rfl _ _ _ (by rfl) HE.out A n c (bs.map (Value.int .u8)) (by rfl) (Hs.out.alloc _) (ints_one bs) (by unfold maxLen; omega) (by omega) (by simp) ?_; intro v1 w1 hown1 hgrow1; have hb1 := below_app HB.out HE.out hgrow1)
    | (go_at_call 25; refine (refBytes_any m _ h0 h1).mono ?_; rintro e w2 ⟨v2, rfl, hown2, hb2⟩; obtain ⟨g2, cap2, rfl, _, _⟩ := hown2.form (by omega); have hown1b := own_below hown1 hb2; have hb12 := hb1.trans (hb2.mono hb1.size))
    | (at_builtin; refine wpList_app rfl (.tmp 7) (.tmp 9) 34 rfl w.heap.size 5 i0 (.int .u8 0) 1 Try.underlying34 Hi.out Hz0.out Hz1.out Hz2.out rfl _ _ _ (by rfl) hown1b (some ⟨g2, 0, none⟩) 6 cap2 ((bytesPre m 6).map (Value.int .u8)) (by rfl) (Src.own hown2) (ints_one _) (by unfold maxLen; omega) (by omega) hb12.size ?_; intro v3 w3 hown3 hgrow3; have hb3 := below_app hb12 hown1b hgrow3))
  go_ret
  exact ⟨_, rfl, by simpa using hown3, hb3⟩
end Go.Proofs.Ytiafhjjnihpaaaa
