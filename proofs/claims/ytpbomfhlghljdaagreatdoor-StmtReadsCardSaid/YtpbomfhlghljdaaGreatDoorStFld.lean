/- A line's fields exchanged for a value's: sixteen methods, by their numbers (made by mk-stfld.py). -/
import Derived.Test.YtpbomfhlghljdaaGreatDoorStWv
import Derived.RegionTactic
namespace Go.Proofs.YtpbomfhlghljdaaGreatDoor
open Go.RowKit

/-- both boxes behind an exchange -/
def FGot (f p q : Nat) (L : LV) (V : WV) (w : World) (e : Ending) (w' : World) : Prop :=
  e = .returned (.tuple #[]) ∧ ∃ s1 s2 s3 s4 t1 t2, FV w' p q (fput f L V) s1 s2 s3 s4 (ftake f L V) t1 t2 ∧ Ex2 p q w w'
theorem FGot.of {f p q : Nat} {L : LV} {V : WV} {w w' : World} {s1 s2 s3 s4 t1 t2 : SlV} (h : FV w' p q (fput f L V) s1 s2 s3 s4 (ftake f L V) t1 t2 ∧ Ex2 p q w w') : FGot f p q L V w (.returned (.tuple #[])) w' :=
  ⟨rfl, s1, s2, s3, s4, t1, t2, h⟩
set_option maxHeartbeats 1000000 in
theorem fld_dev {w : World} {p q : Nat} {L : LV} {s1 s2 s3 s4 : SlV} {V : WV} {t1 t2 : SlV} (h : FV w p q L s1 s2 s3 s4 V t1 t2) :
    Calls Tryz.prog 34 #[.pointer (some ⟨p, 0, none⟩), .pointer (some ⟨q, 0, none⟩)] w (FGot 0 p q L V w) := by
  have c1 : w.cell? ⟨p, 2, none⟩ = some (.string (str L.dev)) := h.box.cell 2 (by omega)
  have f1 : w.frozen? ⟨p, 2, none⟩ = false := h.box.2 _
  have c2 : w.cell? ⟨q, 0, none⟩ = some (.string (str V.text)) := h.val.cell 0 (by omega)
  have f2 : w.frozen? ⟨q, 0, none⟩ = false := h.val.2 _
  have hne := h.ne
  have H := Lib.hid h
  clear h
  go_enter Tryz.func34, Tryz.ntmps34
  go_region
  refine Great.bodyPost_end0 rfl rfl ?_
  have K := H.out.put (M := fput 0 L V) (U := ftake 0 L V) 2 0 (.string (str V.text)) (.string (str L.dev)) (by omega) (by omega) (fun k hk => match k, hk with | 0, _ | 1, _ | 2, _ | 3, _ | 4, _ | 5, _ | 6, _ | 7, _ | 8, _ | 9, _ | 10, _ | 11, _ | 12, _ | 13, _ | 14, _ | 15, _ | 16, _ => rfl | k + 17, h => absurd h (by omega)) (fun k hk => match k, hk with | 0, _ | 1, _ | 2, _ | 3, _ | 4, _ | 5, _ => rfl | k + 6, h => absurd h (by omega)) H.out.l1 H.out.l2 H.out.l3 H.out.l4 H.out.v1 H.out.v2
  exact FGot.of ⟨K.1.drew1, K.2.drew1⟩
set_option maxHeartbeats 1000000 in
theorem fld_port {w : World} {p q : Nat} {L : LV} {s1 s2 s3 s4 : SlV} {V : WV} {t1 t2 : SlV} (h : FV w p q L s1 s2 s3 s4 V t1 t2) :
    Calls Tryz.prog 37 #[.pointer (some ⟨p, 0, none⟩), .pointer (some ⟨q, 0, none⟩)] w (FGot 1 p q L V w) := by
  have c1 : w.cell? ⟨p, 3, none⟩ = some (.string (str L.port)) := h.box.cell 3 (by omega)
  have f1 : w.frozen? ⟨p, 3, none⟩ = false := h.box.2 _
  have c2 : w.cell? ⟨q, 0, none⟩ = some (.string (str V.text)) := h.val.cell 0 (by omega)
  have f2 : w.frozen? ⟨q, 0, none⟩ = false := h.val.2 _
  have hne := h.ne
  have H := Lib.hid h
  clear h
  go_enter Tryz.func37, Tryz.ntmps37
  go_region
  refine Great.bodyPost_end0 rfl rfl ?_
  have K := H.out.put (M := fput 1 L V) (U := ftake 1 L V) 3 0 (.string (str V.text)) (.string (str L.port)) (by omega) (by omega) (fun k hk => match k, hk with | 0, _ | 1, _ | 2, _ | 3, _ | 4, _ | 5, _ | 6, _ | 7, _ | 8, _ | 9, _ | 10, _ | 11, _ | 12, _ | 13, _ | 14, _ | 15, _ | 16, _ => rfl | k + 17, h => absurd h (by omega)) (fun k hk => match k, hk with | 0, _ | 1, _ | 2, _ | 3, _ | 4, _ | 5, _ => rfl | k + 6, h => absurd h (by omega)) H.out.l1 H.out.l2 H.out.l3 H.out.l4 H.out.v1 H.out.v2
  exact FGot.of ⟨K.1.drew1, K.2.drew1⟩
set_option maxHeartbeats 1000000 in
theorem fld_peer {w : World} {p q : Nat} {L : LV} {s1 s2 s3 s4 : SlV} {V : WV} {t1 t2 : SlV} (h : FV w p q L s1 s2 s3 s4 V t1 t2) :
    Calls Tryz.prog 42 #[.pointer (some ⟨p, 0, none⟩), .pointer (some ⟨q, 0, none⟩)] w (FGot 2 p q L V w) := by
  have c1 : w.cell? ⟨p, 4, none⟩ = some (.string (str L.peer)) := h.box.cell 4 (by omega)
  have f1 : w.frozen? ⟨p, 4, none⟩ = false := h.box.2 _
  have c2 : w.cell? ⟨q, 0, none⟩ = some (.string (str V.text)) := h.val.cell 0 (by omega)
  have f2 : w.frozen? ⟨q, 0, none⟩ = false := h.val.2 _
  have hne := h.ne
  have H := Lib.hid h
  clear h
  go_enter Tryz.func42, Tryz.ntmps42
  go_region
  refine Great.bodyPost_end0 rfl rfl ?_
  have K := H.out.put (M := fput 2 L V) (U := ftake 2 L V) 4 0 (.string (str V.text)) (.string (str L.peer)) (by omega) (by omega) (fun k hk => match k, hk with | 0, _ | 1, _ | 2, _ | 3, _ | 4, _ | 5, _ | 6, _ | 7, _ | 8, _ | 9, _ | 10, _ | 11, _ | 12, _ | 13, _ | 14, _ | 15, _ | 16, _ => rfl | k + 17, h => absurd h (by omega)) (fun k hk => match k, hk with | 0, _ | 1, _ | 2, _ | 3, _ | 4, _ | 5, _ => rfl | k + 6, h => absurd h (by omega)) H.out.l1 H.out.l2 H.out.l3 H.out.l4 H.out.v1 H.out.v2
  exact FGot.of ⟨K.1.drew1, K.2.drew1⟩
set_option maxHeartbeats 1000000 in
theorem fld_far {w : World} {p q : Nat} {L : LV} {s1 s2 s3 s4 : SlV} {V : WV} {t1 t2 : SlV} (h : FV w p q L s1 s2 s3 s4 V t1 t2) :
    Calls Tryz.prog 43 #[.pointer (some ⟨p, 0, none⟩), .pointer (some ⟨q, 0, none⟩)] w (FGot 3 p q L V w) := by
  have c1 : w.cell? ⟨p, 5, none⟩ = some (.string (str L.far)) := h.box.cell 5 (by omega)
  have f1 : w.frozen? ⟨p, 5, none⟩ = false := h.box.2 _
  have c2 : w.cell? ⟨q, 0, none⟩ = some (.string (str V.text)) := h.val.cell 0 (by omega)
  have f2 : w.frozen? ⟨q, 0, none⟩ = false := h.val.2 _
  have hne := h.ne
  have H := Lib.hid h
  clear h
  go_enter Tryz.func43, Tryz.ntmps43
  go_region
  refine Great.bodyPost_end0 rfl rfl ?_
  have K := H.out.put (M := fput 3 L V) (U := ftake 3 L V) 5 0 (.string (str V.text)) (.string (str L.far)) (by omega) (by omega) (fun k hk => match k, hk with | 0, _ | 1, _ | 2, _ | 3, _ | 4, _ | 5, _ | 6, _ | 7, _ | 8, _ | 9, _ | 10, _ | 11, _ | 12, _ | 13, _ | 14, _ | 15, _ | 16, _ => rfl | k + 17, h => absurd h (by omega)) (fun k hk => match k, hk with | 0, _ | 1, _ | 2, _ | 3, _ | 4, _ | 5, _ => rfl | k + 6, h => absurd h (by omega)) H.out.l1 H.out.l2 H.out.l3 H.out.l4 H.out.v1 H.out.v2
  exact FGot.of ⟨K.1.drew1, K.2.drew1⟩
set_option maxHeartbeats 1000000 in
theorem fld_name {w : World} {p q : Nat} {L : LV} {s1 s2 s3 s4 : SlV} {V : WV} {t1 t2 : SlV} (h : FV w p q L s1 s2 s3 s4 V t1 t2) :
    Calls Tryz.prog 46 #[.pointer (some ⟨p, 0, none⟩), .pointer (some ⟨q, 0, none⟩)] w (FGot 4 p q L V w) := by
  have c1 : w.cell? ⟨p, 6, none⟩ = some (.string (str L.name)) := h.box.cell 6 (by omega)
  have f1 : w.frozen? ⟨p, 6, none⟩ = false := h.box.2 _
  have c2 : w.cell? ⟨q, 0, none⟩ = some (.string (str V.text)) := h.val.cell 0 (by omega)
  have f2 : w.frozen? ⟨q, 0, none⟩ = false := h.val.2 _
  have hne := h.ne
  have H := Lib.hid h
  clear h
  go_enter Tryz.func46, Tryz.ntmps46
  go_region
  refine Great.bodyPost_end0 rfl rfl ?_
  have K := H.out.put (M := fput 4 L V) (U := ftake 4 L V) 6 0 (.string (str V.text)) (.string (str L.name)) (by omega) (by omega) (fun k hk => match k, hk with | 0, _ | 1, _ | 2, _ | 3, _ | 4, _ | 5, _ | 6, _ | 7, _ | 8, _ | 9, _ | 10, _ | 11, _ | 12, _ | 13, _ | 14, _ | 15, _ | 16, _ => rfl | k + 17, h => absurd h (by omega)) (fun k hk => match k, hk with | 0, _ | 1, _ | 2, _ | 3, _ | 4, _ | 5, _ => rfl | k + 6, h => absurd h (by omega)) H.out.l1 H.out.l2 H.out.l3 H.out.l4 H.out.v1 H.out.v2
  exact FGot.of ⟨K.1.drew1, K.2.drew1⟩
set_option maxHeartbeats 1000000 in
theorem fld_number {w : World} {p q : Nat} {L : LV} {s1 s2 s3 s4 : SlV} {V : WV} {t1 t2 : SlV} (h : FV w p q L s1 s2 s3 s4 V t1 t2) :
    Calls Tryz.prog 35 #[.pointer (some ⟨p, 0, none⟩), .pointer (some ⟨q, 0, none⟩)] w (FGot 6 p q L V w) := by
  have c1 : w.cell? ⟨p, 11, none⟩ = some (.int .i64 L.num) := h.box.cell 11 (by omega)
  have f1 : w.frozen? ⟨p, 11, none⟩ = false := h.box.2 _
  have c2 : w.cell? ⟨q, 1, none⟩ = some (.int .i64 V.n) := h.val.cell 1 (by omega)
  have f2 : w.frozen? ⟨q, 1, none⟩ = false := h.val.2 _
  have hne := h.ne
  have H := Lib.hid h
  clear h
  go_enter Tryz.func35, Tryz.ntmps35
  go_region
  refine Great.bodyPost_end0 rfl rfl ?_
  have K := H.out.put (M := fput 6 L V) (U := ftake 6 L V) 11 1 (.int .i64 V.n) (.int .i64 L.num) (by omega) (by omega) (fun k hk => match k, hk with | 0, _ | 1, _ | 2, _ | 3, _ | 4, _ | 5, _ | 6, _ | 7, _ | 8, _ | 9, _ | 10, _ | 11, _ | 12, _ | 13, _ | 14, _ | 15, _ | 16, _ => rfl | k + 17, h => absurd h (by omega)) (fun k hk => match k, hk with | 0, _ | 1, _ | 2, _ | 3, _ | 4, _ | 5, _ => rfl | k + 6, h => absurd h (by omega)) H.out.l1 H.out.l2 H.out.l3 H.out.l4 H.out.v1 H.out.v2
  exact FGot.of ⟨K.1.drew1, K.2.drew1⟩
set_option maxHeartbeats 1000000 in
theorem fld_vlan {w : World} {p q : Nat} {L : LV} {s1 s2 s3 s4 : SlV} {V : WV} {t1 t2 : SlV} (h : FV w p q L s1 s2 s3 s4 V t1 t2) :
    Calls Tryz.prog 40 #[.pointer (some ⟨p, 0, none⟩), .pointer (some ⟨q, 0, none⟩)] w (FGot 7 p q L V w) := by
  have c1 : w.cell? ⟨p, 10, none⟩ = some (.int .i64 L.vlan) := h.box.cell 10 (by omega)
  have f1 : w.frozen? ⟨p, 10, none⟩ = false := h.box.2 _
  have c2 : w.cell? ⟨q, 1, none⟩ = some (.int .i64 V.n) := h.val.cell 1 (by omega)
  have f2 : w.frozen? ⟨q, 1, none⟩ = false := h.val.2 _
  have hne := h.ne
  have H := Lib.hid h
  clear h
  go_enter Tryz.func40, Tryz.ntmps40
  go_region
  refine Great.bodyPost_end0 rfl rfl ?_
  have K := H.out.put (M := fput 7 L V) (U := ftake 7 L V) 10 1 (.int .i64 V.n) (.int .i64 L.vlan) (by omega) (by omega) (fun k hk => match k, hk with | 0, _ | 1, _ | 2, _ | 3, _ | 4, _ | 5, _ | 6, _ | 7, _ | 8, _ | 9, _ | 10, _ | 11, _ | 12, _ | 13, _ | 14, _ | 15, _ | 16, _ => rfl | k + 17, h => absurd h (by omega)) (fun k hk => match k, hk with | 0, _ | 1, _ | 2, _ | 3, _ | 4, _ | 5, _ => rfl | k + 6, h => absurd h (by omega)) H.out.l1 H.out.l2 H.out.l3 H.out.l4 H.out.v1 H.out.v2
  exact FGot.of ⟨K.1.drew1, K.2.drew1⟩
set_option maxHeartbeats 1000000 in
theorem fld_cost {w : World} {p q : Nat} {L : LV} {s1 s2 s3 s4 : SlV} {V : WV} {t1 t2 : SlV} (h : FV w p q L s1 s2 s3 s4 V t1 t2) :
    Calls Tryz.prog 38 #[.pointer (some ⟨p, 0, none⟩), .pointer (some ⟨q, 0, none⟩)] w (FGot 8 p q L V w) := by
  have c1 : w.cell? ⟨p, 12, none⟩ = some (.int .i64 L.cost) := h.box.cell 12 (by omega)
  have f1 : w.frozen? ⟨p, 12, none⟩ = false := h.box.2 _
  have c2 : w.cell? ⟨q, 1, none⟩ = some (.int .i64 V.n) := h.val.cell 1 (by omega)
  have f2 : w.frozen? ⟨q, 1, none⟩ = false := h.val.2 _
  have hne := h.ne
  have H := Lib.hid h
  clear h
  go_enter Tryz.func38, Tryz.ntmps38
  go_region
  refine Great.bodyPost_end0 rfl rfl ?_
  have K := H.out.put (M := fput 8 L V) (U := ftake 8 L V) 12 1 (.int .i64 V.n) (.int .i64 L.cost) (by omega) (by omega) (fun k hk => match k, hk with | 0, _ | 1, _ | 2, _ | 3, _ | 4, _ | 5, _ | 6, _ | 7, _ | 8, _ | 9, _ | 10, _ | 11, _ | 12, _ | 13, _ | 14, _ | 15, _ | 16, _ => rfl | k + 17, h => absurd h (by omega)) (fun k hk => match k, hk with | 0, _ | 1, _ | 2, _ | 3, _ | 4, _ | 5, _ => rfl | k + 6, h => absurd h (by omega)) H.out.l1 H.out.l2 H.out.l3 H.out.l4 H.out.v1 H.out.v2
  exact FGot.of ⟨K.1.drew1, K.2.drew1⟩
set_option maxHeartbeats 1000000 in
theorem fld_mac {w : World} {p q : Nat} {L : LV} {s1 s2 s3 s4 : SlV} {V : WV} {t1 t2 : SlV} (h : FV w p q L s1 s2 s3 s4 V t1 t2) :
    Calls Tryz.prog 36 #[.pointer (some ⟨p, 0, none⟩), .pointer (some ⟨q, 0, none⟩)] w (FGot 9 p q L V w) := by
  have c1 : w.cell? ⟨p, 7, none⟩ = some (.int .u64 L.mac) := h.box.cell 7 (by omega)
  have f1 : w.frozen? ⟨p, 7, none⟩ = false := h.box.2 _
  have c2 : w.cell? ⟨q, 2, none⟩ = some (.int .u64 V.mac) := h.val.cell 2 (by omega)
  have f2 : w.frozen? ⟨q, 2, none⟩ = false := h.val.2 _
  have hne := h.ne
  have H := Lib.hid h
  clear h
  go_enter Tryz.func36, Tryz.ntmps36
  go_region
  refine Great.bodyPost_end0 rfl rfl ?_
  have K := H.out.put (M := fput 9 L V) (U := ftake 9 L V) 7 2 (.int .u64 V.mac) (.int .u64 L.mac) (by omega) (by omega) (fun k hk => match k, hk with | 0, _ | 1, _ | 2, _ | 3, _ | 4, _ | 5, _ | 6, _ | 7, _ | 8, _ | 9, _ | 10, _ | 11, _ | 12, _ | 13, _ | 14, _ | 15, _ | 16, _ => rfl | k + 17, h => absurd h (by omega)) (fun k hk => match k, hk with | 0, _ | 1, _ | 2, _ | 3, _ | 4, _ | 5, _ => rfl | k + 6, h => absurd h (by omega)) H.out.l1 H.out.l2 H.out.l3 H.out.l4 H.out.v1 H.out.v2
  exact FGot.of ⟨K.1.drew1, K.2.drew1⟩
set_option maxHeartbeats 1000000 in
theorem fld_addr {w : World} {p q : Nat} {L : LV} {s1 s2 s3 s4 : SlV} {V : WV} {t1 t2 : SlV} (h : FV w p q L s1 s2 s3 s4 V t1 t2) :
    Calls Tryz.prog 44 #[.pointer (some ⟨p, 0, none⟩), .pointer (some ⟨q, 0, none⟩)] w (FGot 10 p q L V w) := by
  have c1 : w.cell? ⟨p, 8, none⟩ = some (.int .u32 L.addr) := h.box.cell 8 (by omega)
  have f1 : w.frozen? ⟨p, 8, none⟩ = false := h.box.2 _
  have c2 : w.cell? ⟨q, 3, none⟩ = some (.int .u32 V.addr) := h.val.cell 3 (by omega)
  have f2 : w.frozen? ⟨q, 3, none⟩ = false := h.val.2 _
  have hne := h.ne
  have H := Lib.hid h
  clear h
  go_enter Tryz.func44, Tryz.ntmps44
  go_region
  refine Great.bodyPost_end0 rfl rfl ?_
  have K := H.out.put (M := fput 10 L V) (U := ftake 10 L V) 8 3 (.int .u32 V.addr) (.int .u32 L.addr) (by omega) (by omega) (fun k hk => match k, hk with | 0, _ | 1, _ | 2, _ | 3, _ | 4, _ | 5, _ | 6, _ | 7, _ | 8, _ | 9, _ | 10, _ | 11, _ | 12, _ | 13, _ | 14, _ | 15, _ | 16, _ => rfl | k + 17, h => absurd h (by omega)) (fun k hk => match k, hk with | 0, _ | 1, _ | 2, _ | 3, _ | 4, _ | 5, _ => rfl | k + 6, h => absurd h (by omega)) H.out.l1 H.out.l2 H.out.l3 H.out.l4 H.out.v1 H.out.v2
  exact FGot.of ⟨K.1.drew1, K.2.drew1⟩
set_option maxHeartbeats 1000000 in
theorem fld_tagged {w : World} {p q : Nat} {L : LV} {s1 s2 s3 s4 : SlV} {V : WV} {t1 t2 : SlV} (h : FV w p q L s1 s2 s3 s4 V t1 t2) :
    Calls Tryz.prog 41 #[.pointer (some ⟨p, 0, none⟩), .pointer (some ⟨q, 0, none⟩)] w (FGot 12 p q L V w) := by
  have c1 : w.cell? ⟨p, 13, none⟩ = some (.slice s1.A s1.n s1.c) := h.box.cell 13 (by omega)
  have f1 : w.frozen? ⟨p, 13, none⟩ = false := h.box.2 _
  have c2 : w.cell? ⟨q, 4, none⟩ = some (.slice t1.A t1.n t1.c) := h.val.cell 4 (by omega)
  have f2 : w.frozen? ⟨q, 4, none⟩ = false := h.val.2 _
  have hne := h.ne
  have H := Lib.hid h
  clear h
  go_enter Tryz.func41, Tryz.ntmps41
  go_region
  refine Great.bodyPost_end0 rfl rfl ?_
  have K := H.out.put (M := fput 12 L V) (U := ftake 12 L V) 13 4 (.slice t1.A t1.n t1.c) (.slice s1.A s1.n s1.c) (by omega) (by omega) (fun k hk => match k, hk with | 0, _ | 1, _ | 2, _ | 3, _ | 4, _ | 5, _ | 6, _ | 7, _ | 8, _ | 9, _ | 10, _ | 11, _ | 12, _ | 13, _ | 14, _ | 15, _ | 16, _ => rfl | k + 17, h => absurd h (by omega)) (fun k hk => match k, hk with | 0, _ | 1, _ | 2, _ | 3, _ | 4, _ | 5, _ => rfl | k + 6, h => absurd h (by omega)) H.out.v1 H.out.l2 H.out.l3 H.out.l4 H.out.l1 H.out.v2
  exact FGot.of ⟨K.1.drew1, K.2.drew1⟩
set_option maxHeartbeats 1000000 in
theorem fld_imports {w : World} {p q : Nat} {L : LV} {s1 s2 s3 s4 : SlV} {V : WV} {t1 t2 : SlV} (h : FV w p q L s1 s2 s3 s4 V t1 t2) :
    Calls Tryz.prog 47 #[.pointer (some ⟨p, 0, none⟩), .pointer (some ⟨q, 0, none⟩)] w (FGot 13 p q L V w) := by
  have c1 : w.cell? ⟨p, 14, none⟩ = some (.slice s2.A s2.n s2.c) := h.box.cell 14 (by omega)
  have f1 : w.frozen? ⟨p, 14, none⟩ = false := h.box.2 _
  have c2 : w.cell? ⟨q, 4, none⟩ = some (.slice t1.A t1.n t1.c) := h.val.cell 4 (by omega)
  have f2 : w.frozen? ⟨q, 4, none⟩ = false := h.val.2 _
  have hne := h.ne
  have H := Lib.hid h
  clear h
  go_enter Tryz.func47, Tryz.ntmps47
  go_region
  refine Great.bodyPost_end0 rfl rfl ?_
  have K := H.out.put (M := fput 13 L V) (U := ftake 13 L V) 14 4 (.slice t1.A t1.n t1.c) (.slice s2.A s2.n s2.c) (by omega) (by omega) (fun k hk => match k, hk with | 0, _ | 1, _ | 2, _ | 3, _ | 4, _ | 5, _ | 6, _ | 7, _ | 8, _ | 9, _ | 10, _ | 11, _ | 12, _ | 13, _ | 14, _ | 15, _ | 16, _ => rfl | k + 17, h => absurd h (by omega)) (fun k hk => match k, hk with | 0, _ | 1, _ | 2, _ | 3, _ | 4, _ | 5, _ => rfl | k + 6, h => absurd h (by omega)) H.out.l1 H.out.v1 H.out.l3 H.out.l4 H.out.l2 H.out.v2
  exact FGot.of ⟨K.1.drew1, K.2.drew1⟩
set_option maxHeartbeats 1000000 in
theorem fld_exports {w : World} {p q : Nat} {L : LV} {s1 s2 s3 s4 : SlV} {V : WV} {t1 t2 : SlV} (h : FV w p q L s1 s2 s3 s4 V t1 t2) :
    Calls Tryz.prog 48 #[.pointer (some ⟨p, 0, none⟩), .pointer (some ⟨q, 0, none⟩)] w (FGot 14 p q L V w) := by
  have c1 : w.cell? ⟨p, 15, none⟩ = some (.slice s3.A s3.n s3.c) := h.box.cell 15 (by omega)
  have f1 : w.frozen? ⟨p, 15, none⟩ = false := h.box.2 _
  have c2 : w.cell? ⟨q, 4, none⟩ = some (.slice t1.A t1.n t1.c) := h.val.cell 4 (by omega)
  have f2 : w.frozen? ⟨q, 4, none⟩ = false := h.val.2 _
  have hne := h.ne
  have H := Lib.hid h
  clear h
  go_enter Tryz.func48, Tryz.ntmps48
  go_region
  refine Great.bodyPost_end0 rfl rfl ?_
  have K := H.out.put (M := fput 14 L V) (U := ftake 14 L V) 15 4 (.slice t1.A t1.n t1.c) (.slice s3.A s3.n s3.c) (by omega) (by omega) (fun k hk => match k, hk with | 0, _ | 1, _ | 2, _ | 3, _ | 4, _ | 5, _ | 6, _ | 7, _ | 8, _ | 9, _ | 10, _ | 11, _ | 12, _ | 13, _ | 14, _ | 15, _ | 16, _ => rfl | k + 17, h => absurd h (by omega)) (fun k hk => match k, hk with | 0, _ | 1, _ | 2, _ | 3, _ | 4, _ | 5, _ => rfl | k + 6, h => absurd h (by omega)) H.out.l1 H.out.l2 H.out.v1 H.out.l4 H.out.l3 H.out.v2
  exact FGot.of ⟨K.1.drew1, K.2.drew1⟩
set_option maxHeartbeats 1000000 in
theorem fld_addrs {w : World} {p q : Nat} {L : LV} {s1 s2 s3 s4 : SlV} {V : WV} {t1 t2 : SlV} (h : FV w p q L s1 s2 s3 s4 V t1 t2) :
    Calls Tryz.prog 45 #[.pointer (some ⟨p, 0, none⟩), .pointer (some ⟨q, 0, none⟩)] w (FGot 15 p q L V w) := by
  have c1 : w.cell? ⟨p, 16, none⟩ = some (.slice s4.A s4.n s4.c) := h.box.cell 16 (by omega)
  have f1 : w.frozen? ⟨p, 16, none⟩ = false := h.box.2 _
  have c2 : w.cell? ⟨q, 5, none⟩ = some (.slice t2.A t2.n t2.c) := h.val.cell 5 (by omega)
  have f2 : w.frozen? ⟨q, 5, none⟩ = false := h.val.2 _
  have hne := h.ne
  have H := Lib.hid h
  clear h
  go_enter Tryz.func45, Tryz.ntmps45
  go_region
  refine Great.bodyPost_end0 rfl rfl ?_
  have K := H.out.put (M := fput 15 L V) (U := ftake 15 L V) 16 5 (.slice t2.A t2.n t2.c) (.slice s4.A s4.n s4.c) (by omega) (by omega) (fun k hk => match k, hk with | 0, _ | 1, _ | 2, _ | 3, _ | 4, _ | 5, _ | 6, _ | 7, _ | 8, _ | 9, _ | 10, _ | 11, _ | 12, _ | 13, _ | 14, _ | 15, _ | 16, _ => rfl | k + 17, h => absurd h (by omega)) (fun k hk => match k, hk with | 0, _ | 1, _ | 2, _ | 3, _ | 4, _ | 5, _ => rfl | k + 6, h => absurd h (by omega)) H.out.l1 H.out.l2 H.out.l3 H.out.v2 H.out.v1 H.out.l4
  exact FGot.of ⟨K.1.drew1, K.2.drew1⟩
theorem fld_mode {w : World} {p q : Nat} {L : LV} {s1 s2 s3 s4 : SlV} {V : WV} {t1 t2 : SlV} (h : FV w p q L s1 s2 s3 s4 V t1 t2) :
    Calls Tryz.prog 39 #[.pointer (some ⟨p, 0, none⟩), .pointer (some ⟨q, 0, none⟩)] w (FGot 5 p q L V w) := by
  have c2 : w.cell? ⟨q, 0, none⟩ = some (.string (str V.text)) := h.val.cell 0 (by omega)
  have f2 : w.frozen? ⟨q, 0, none⟩ = false := h.val.2 _
  have H := Lib.hid h
  clear h
  go_enter Tryz.func39, Tryz.ntmps39
  go_wp2
  refine Great.bodyPost_end0 rfl rfl ?_
  exact FGot.of (H.out.putv (U := ftake 5 L V) 0 (.string ⟨#[116, 114, 117, 110, 107]⟩) (by omega) (fun k hk => match k, hk with | 0, _ | 1, _ | 2, _ | 3, _ | 4, _ | 5, _ => rfl | k + 6, h => absurd h (by omega)) H.out.v1 H.out.v2)
set_option maxHeartbeats 1000000 in
theorem fld_prefix {w : World} {p q : Nat} {L : LV} {s1 s2 s3 s4 : SlV} {V : WV} {t1 t2 : SlV} (h : FV w p q L s1 s2 s3 s4 V t1 t2) :
    Calls Tryz.prog 49 #[.pointer (some ⟨p, 0, none⟩), .pointer (some ⟨q, 0, none⟩)] w (FGot 11 p q L V w) := by
  have hne := h.ne
  have H := Lib.hid h
  clear h
  go_enter Tryz.func49, Tryz.ntmps49
  go_wp2_with (go_at_call 44; (with_reducible refine (fld_addr H.out).mono ?_); rintro e w1 ⟨rfl, a1, a2, a3, a4, b1, b2, G, E⟩)
  have c1 : w1.cell? ⟨p, 9, none⟩ = some (.int .i64 L.bits) := G.box.cell 9 (by omega)
  have f1 : w1.frozen? ⟨p, 9, none⟩ = false := G.box.2 _
  have c2 : w1.cell? ⟨q, 1, none⟩ = some (.int .i64 V.n) := G.val.cell 1 (by omega)
  have f2 : w1.frozen? ⟨q, 1, none⟩ = false := G.val.2 _
  have GG := Lib.hid G
  have EE := Lib.hid E
  clear G E
  go_region
  refine Great.bodyPost_end0 rfl rfl ?_
  have K := GG.out.put (M := fput 11 L V) (U := ftake 11 L V) 9 1 (.int .i64 V.n) (.int .i64 L.bits) (by omega) (by omega) (fun k hk => match k, hk with | 0, _ | 1, _ | 2, _ | 3, _ | 4, _ | 5, _ | 6, _ | 7, _ | 8, _ | 9, _ | 10, _ | 11, _ | 12, _ | 13, _ | 14, _ | 15, _ | 16, _ => rfl | k + 17, h => absurd h (by omega)) (fun k hk => match k, hk with | 0, _ | 1, _ | 2, _ | 3, _ | 4, _ | 5, _ => rfl | k + 6, h => absurd h (by omega)) GG.out.l1 GG.out.l2 GG.out.l3 GG.out.l4 GG.out.v1 GG.out.v2
  exact FGot.of ⟨K.1.drew1, EE.out.trans K.2.drew1⟩
/-- the function of a field -/
def fnum : Nat → Nat
  | 0 => 34
  | 1 => 37
  | 2 => 42
  | 3 => 43
  | 4 => 46
  | 5 => 39
  | 6 => 35
  | 7 => 40
  | 8 => 38
  | 9 => 36
  | 10 => 44
  | 11 => 49
  | 12 => 41
  | 13 => 47
  | 14 => 48
  | _ => 45
theorem fld_any {w : World} {p q : Nat} {L : LV} {s1 s2 s3 s4 : SlV} {V : WV} {t1 t2 : SlV} (f : Nat) (hf : f < 16) (h : FV w p q L s1 s2 s3 s4 V t1 t2) :
    Calls Tryz.prog (fnum f) #[.pointer (some ⟨p, 0, none⟩), .pointer (some ⟨q, 0, none⟩)] w (FGot f p q L V w) := by
  match f, hf with
  | 0, _ => exact fld_dev h
  | 1, _ => exact fld_port h
  | 2, _ => exact fld_peer h
  | 3, _ => exact fld_far h
  | 4, _ => exact fld_name h
  | 5, _ => exact fld_mode h
  | 6, _ => exact fld_number h
  | 7, _ => exact fld_vlan h
  | 8, _ => exact fld_cost h
  | 9, _ => exact fld_mac h
  | 10, _ => exact fld_addr h
  | 11, _ => exact fld_prefix h
  | 12, _ => exact fld_tagged h
  | 13, _ => exact fld_imports h
  | 14, _ => exact fld_exports h
  | 15, _ => exact fld_addrs h
  | f + 16, h => exact absurd h (by omega)
/-- the method value of a field -/
def fval (f p : Nat) : Value := .func (.func (fnum f)) #[.pointer (some ⟨p, 0, none⟩)] #[]
end Go.Proofs.YtpbomfhlghljdaaGreatDoor
