/- The contracts of package ether and of palingref04. -/
import Derived.Test.YtojkcejpihomhaaBsl
namespace Go.Proofs.Ytojkcejpihomhaa
open Go.RowKit
open Go.Lib (byteCells)

/-- the text that bytes are turned into -/
theorem run_string_bsl (w : World) (A : Option Addr) (n c : Nat) (l : List UInt8) (h : BSl w A n c l) :
    (convert 23 9 (.slice A n c)).run Try.prog w = .ok (.string (str l)) w := by
  have hl := h.len
  rcases h.cells_ with ⟨rfl, rfl, rfl, rfl⟩ | ⟨ad, rfl, hc⟩
  · exact run_string_bytes w 0 _ [] (World.ownsRow_nil _ _ _ _)
  · rw [run_convert_bytes_string w _ _ _ _ _ _ Try.underlying23 Try.underlying5 Try.underlying9]
    have hld := run_loadCells_list (P := Try.prog) (w := w) ad (byteCells l) hc
    rw [Lib.byteCells_length, hl] at hld
    have hcells : byteCells l = (l.map fun b => (b.toNat : Int)).map (Value.int .u8) := by simp [Lib.byteCells]
    rw [hcells] at hld
    rw [run_bytesToString w _ _ _ (l.map fun b => (b.toNat : Int)) hld]
    congr 2
    have key : ∀ (l : List UInt8) (r : ByteArray), (l.map fun b => (b.toNat : Int)).foldl (fun r n => r.push (UInt8.ofNat n.toNat)) r = ⟨r.data ++ l.toArray⟩ := by
      intro l
      induction l with
      | nil => intro r; simp
      | cons c l ih =>
        intro r
        rw [List.map_cons, List.foldl_cons, ih]
        show ByteArray.mk (r.data.push _ ++ _) = _
        congr 1
        apply Array.ext'
        simp
    rw [key]
    simp [ByteArray.empty, ByteArray.emptyWithCapacity]
    rfl
theorem str_same (l m : List UInt8) : ((str l).toList == (str m).toList) = (l == m) := by rw [str_toList, str_toList]

theorem equal_any (A : Option Addr) (n c : Nat) (l : List UInt8) (B : Option Addr) (m d : Nat) (k : List UInt8) (w : World) (h : BSl w A n c l) (g : BSl w B m d k) :
    Calls Try.prog 19 #[.slice A n c, .slice B m d] w fun e w' => e = .returned (.bool (l == k)) ∧ w = w' := by
  have h1 := run_string_bsl w A n c l h
  have h2 := run_string_bsl w B m d k g
  have E := Lib.hid (str_same l k)
  clear h g
  go_enter Try.func19, Try.ntmps19
  go_wp2
  go_ret
  exact ⟨by rw [← E.out]; rfl, rfl⟩

theorem own_cur {w : World} {B g n c : Nat} {e : TypeId} {xs : List Value} (h : w.ownsRow B e 1 (.slice (some ⟨g, 0, none⟩) n c) n xs) :
    ∃ cur : List Value, w.heap[g]? = some (.cells cur.toArray e (0, 0)) ∧ cur.length = c ∧ n ≤ c ∧ c ≤ maxLen ∧ B ≤ g := by
  rcases h.2 with ⟨hv, _⟩ | ⟨g', cap, cur, hv, hB, hh, hc, hm, hs, _⟩
  · injection hv with h1; cases h1
  · injection hv with h1 h2 h3
    cases h1
    subst h3
    exact ⟨cur.toList, by simpa using hh, by simpa using hs, hc, hm, hB⟩
theorem own_of_blk {w : World} {B g n c : Nat} {e : TypeId} {cur : List Value} (h : w.heap[g]? = some (.cells cur.toArray e (0, 0))) (hl : cur.length = c) (hc : n ≤ c) (hm : c ≤ maxLen) (hB : B ≤ g) :
    w.ownsRow B e 1 (.slice (some ⟨g, 0, none⟩) n c) n (cur.take n) :=
  ⟨by simp; omega, .inr ⟨g, c, cur.toArray, rfl, hB, h, hc, hm, by simp [hl], by simp⟩⟩

set_option maxHeartbeats 800000 in
theorem own_any (A : Option Addr) (n c : Nat) (l : List UInt8) (w : World) (hn : n ≤ 1000000) (h : BSl w A n c l) :
    Calls Try.prog 20 #[.slice A n c] w fun e w' => ∃ v, e = .returned v ∧ w'.ownsRow w.heap.size 5 1 v n (byteCells l) ∧ Below w.heap.size w w' := by
  obtain ⟨i0, hi, hz0, hz1, hz2⟩ := info_parts Try.info5
  have Hi := Lib.hid hi; have Hz0 := Lib.hid hz0; have Hz1 := Lib.hid hz1; have Hz2 := Lib.hid hz2
  have HS := Lib.hid h
  have HL := Lib.hid h.len
  have hsz := Lib.hid (show (Try.prog.info? 5).map (·.size) = some 1 by kernel_rfl)
  have HC := Lib.hid (show (byteCells l).length = Nat.min n n by rw [Lib.byteCells_length, h.len]; exact (Nat.min_self n).symm)
  clear hi hz0 hz1 hz2 h
  obtain ⟨cs, hcs⟩ : ∃ cs, cs = byteCells l := ⟨_, rfl⟩
  have HCS := Lib.hid hcs
  rw [← hcs] at HC
  have HL2 := Lib.hid (show cs.length = n by rw [HC.out]; exact Nat.min_self n)
  have HF := Lib.hid (show 0 + cs.length ≤ n by rw [HL2.out]; omega)
  have HP := Lib.hid (show ∀ w0 : World, Below w.heap.size w w0 → 0 < cs.length → (some (⟨w.heap.size, 0, none⟩ : Addr)) = some ⟨w.heap.size, 0, none⟩ ∧ ∃ ad, A = some ad ∧ ∀ j v, cs[j]? = some v → w0.cell? (ad.add j) = some v by
    intro w0 hb0 hp
    refine ⟨rfl, ?_⟩
    rcases (HS.out.below hb0).cells_ with ⟨_, rfl, _, _⟩ | ⟨ad, e, hc⟩
    · exact absurd HL2.out (by omega)
    · exact ⟨ad, e, by rw [hcs]; exact hc⟩)
  clear hcs
  go_enter Try.func20, Try.ntmps20
  go_wp2_with (first
    | (at_make; refine wpList_make_full _ rfl _ _ 23 rfl w.heap.size 5 i0 (.int .u8 0) 1 Try.underlying23 Hi.out Hz0.out Hz1.out .i64 .i64 _ _ n rfl rfl rfl rfl (by rw [Hz2.out]; omega) (by unfold maxLen; omega) (Nat.le_refl _) ?_; intro w0 hown0 hgrow0; have hb0 : Below w.heap.size w w0 := (Below.refl _ _).grown hgrow0 (Nat.le_refl _) (fun _ h => by cases h); obtain ⟨cur, hh, hcl, _, _, _⟩ := own_cur hown0; have HH := Lib.hid hh; have HCL := Lib.hid hcl; clear hh hcl hown0 hgrow0)
    | ((with_reducible refine wpList_copy_splice rfl (.tmp 7) (.tmp 8) 23 23 rfl 5 Try.underlying23 hsz.out (some ⟨w.heap.size, 0, none⟩) A n n n c rfl rfl w.heap.size 0 cur 5 HH.out cs HC.out (HP.out _ hb0) (by rw [HCL.out]; exact HF.out) (by rw [HCS.out]; exact bcells_one l) w.heap.size w hb0 (Nat.le_refl _) ?_); intro w2 HG2 hB2))
  go_ret
  refine ⟨_, rfl, ?_, hB2⟩
  have hl2 : cs.length = n := HL2.out
  have e : splice cur 0 cs = cs := by
    unfold splice
    rw [List.take_zero, List.nil_append, List.drop_eq_nil_of_le (by rw [HCL.out]; omega), List.append_nil]
  have hg := HG2.out
  rw [e] at hg
  have := own_of_blk (n := n) (B := w.heap.size) hg hl2 (Nat.le_refl _) (by unfold maxLen; omega) (Nat.le_refl _)
  rw [List.take_of_length_le (by omega), HCS.out] at this
  exact this
end Go.Proofs.Ytojkcejpihomhaa
