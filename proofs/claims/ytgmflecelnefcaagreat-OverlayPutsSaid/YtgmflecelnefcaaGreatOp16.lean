import Derived.Test.YtgmflecelnefcaaGreatOp14
import Derived.Test.YtgmflecelnefcaaGreatOp15
set_option maxRecDepth 100000
set_option maxHeartbeats 40000000
namespace Go.Proofs.YtgmflecelnefcaaGreat
open Go.Lib (hid)
open Go.RowKit
theorem atF_ge (N:NV) (dev v:Int):atF N dev v≠-1↔0≤atF N dev v:=by
 rcases atF_fst N dev v _ rfl with ⟨k,_,h,_⟩|⟨h,_⟩
 · rw [h];omega
 · rw [h];omega
theorem ptR_iff (N:NV) (i:Nat) (P:PortV) (hd:plB P.dev (N.devices.length:Int)=true):ptR N i P=true↔PortOk N i P:=by
 simp only [ptR,Bool.and_eq_true,Bool.or_eq_true,decide_eq_true_eq,Bool.not_eq_true',Bool.and_eq_false_iff,decide_eq_false_iff_not,List.all_eq_true,List.mem_range,atF_ge]
 constructor
 · rintro ⟨h1,h2,h3,h4,h5,h6,h7,h8⟩
   refine ⟨hd,h1,h2,h3,h4,?_,?_,h8,?_⟩
   · rintro ⟨e1,e2⟩
     rcases h5 with h5|h5
     · exact h5 e1
     · exact h5 (by rw [e2];rfl)
   · intro hp
     rcases h7 with h7|h7
     · omega
     · exact h7
   · exact h6
 · intro g
   refine ⟨g.lo,g.hi,g.tag,g.out,?_,?_,?_,g.doms⟩
   · by_cases e:P.native=0
     · exact .inr (fun e2=>g.one ⟨e,List.eq_nil_of_length_eq_zero e2⟩)
     · exact .inl e
   · exact g.link
   · by_cases e:P.native=0
     · exact .inl e
     · exact .inr (g.dom (by have:=g.lo;omega))
theorem prB_iff (N:NV) (i:Nat) {D:DomV} (_hi:N.domains.getD i DomV.zero=D) (j:Nat) (k:Int):prB N i D j k=true↔vGx N i k=true∧memB (D.peers.take j) k=false:=by
 simp only [prB,meetB,vGx,Bool.and_eq_true,decide_eq_true_eq,Bool.not_eq_true',decide_eq_false_iff_not]
 constructor
 · rintro ⟨h1,⟨h2,h3,h4,h5,h6,h7⟩,h8⟩
   refine ⟨⟨h1,?_,h2,h6,h5,h3,h4,h7⟩,h8⟩;intro e;rw [e] at h2;exact h2 rfl
 · rintro ⟨⟨h1,_,h2,h6,h5,h3,h4,h7⟩,h8⟩
   exact ⟨h1,⟨h2,h3,h4,h5,h6,h7⟩,h8⟩
theorem dmR_iff (N:NV) (i:Nat) (D:DomV) (hi:N.domains.getD i DomV.zero=D) (hd:plB D.dev (N.devices.length:Int)=true):dmR N i D=true↔DomOk N i D∧vHs N i D:=by
 simp only [dmR,Bool.and_eq_true,Bool.or_eq_true,decide_eq_true_eq,List.all_eq_true,List.mem_range]
 constructor
 · rintro ⟨h1,h2,h3,h4,h5,h6,h7⟩
   exact ⟨⟨hd,⟨h1,h2⟩,⟨h3,by omega⟩,h6,h5⟩,fun j hj=>(prB_iff N i hi j _).1 (h7 j hj)⟩
 · rintro ⟨g,g2⟩
   exact ⟨g.vlan.1,g.vlan.2,g.vni.1,by have:=g.vni.2;omega,g.irb,g.one,fun j hj=>(prB_iff N i hi j _).2 (g2 j hj)⟩
theorem dev_port (S:NSl3) (X:PortV) (s:Sl3) (j:Int) (q:Nat) (w:World) (nc:Cs w q (vBk S)) (hle:S.dv.n≤S.dv.c) (hcap:S.dv.c≤9223372036854775807):Calls Tryz.prog 117 #[.int .i64 j,.agg #[.int .i64 X.row,.int .i64 X.dev,.int .i64 X.native,.int .i64 X.cost,.int .i64 X.link,.string (str X.name),.slice s.A s.n s.c],.pointer (some ⟨q,0,none⟩)] w fun e w'=>e=.returned (.bool (plB X.dev (S.dv.n:Int)))∧Below w.heap.size w w':=by
 have PV:=hid (fun w'=>vHe X.dev S.dv.A S.dv.n S.dv.c hle hcap w');have ql:=nc.2;have f0:=nc.1 0 _ rfl;generalize plB X.dev (S.dv.n:Int)=V at *;clear nc
 go_enter Tryz.func117,Tryz.ntmps117
 go_wp2_with (go_at_call 118;(with_reducible refine (PV.out _).mono ?_);rintro e wp ⟨rfl,hwp⟩;subst hwp);go_ret;exact ⟨rfl,vAc _ _⟩
theorem enters_dev1:vAz Tryz.prog 117:=vAt Tryz.func117 (by kernel_rfl) rfl
theorem dev_dom (S:NSl3) (X:DomV) (s:Sl3) (j:Int) (q:Nat) (w:World) (nc:Cs w q (vBk S)) (hle:S.dv.n≤S.dv.c) (hcap:S.dv.c≤9223372036854775807):Calls Tryz.prog 119 #[.int .i64 j,.agg #[.int .i64 X.dev,.int .i64 X.vlan,.int .i64 X.vni,.int .i64 X.irb,.int .i64 X.row,.slice s.A s.n s.c],.pointer (some ⟨q,0,none⟩)] w fun e w'=>e=.returned (.bool (plB X.dev (S.dv.n:Int)))∧Below w.heap.size w w':=by
 have PV:=hid (fun w'=>vHe X.dev S.dv.A S.dv.n S.dv.c hle hcap w');have ql:=nc.2;have f0:=nc.1 0 _ rfl;generalize plB X.dev (S.dv.n:Int)=V at *;clear nc
 go_enter Tryz.func119,Tryz.ntmps119
 go_wp2_with (go_at_call 118;(with_reducible refine (PV.out _).mono ?_);rintro e wp ⟨rfl,hwp⟩;subst hwp);go_ret;exact ⟨rfl,vAc _ _⟩
theorem enters_dev2:vAz Tryz.prog 119:=vAt Tryz.func119 (by kernel_rfl) rfl
theorem dev_flood (S:NSl3) (X:FloodV) (s:Sl3) (j:Int) (q:Nat) (w:World) (nc:Cs w q (vBk S)) (hle:S.dv.n≤S.dv.c) (hcap:S.dv.c≤9223372036854775807):Calls Tryz.prog 120 #[.int .i64 j,.agg #[.int .i64 X.row,.int .i64 X.dev,.int .i64 X.vni,.slice s.A s.n s.c],.pointer (some ⟨q,0,none⟩)] w fun e w'=>e=.returned (.bool (plB X.dev (S.dv.n:Int)))∧Below w.heap.size w w':=by
 have PV:=hid (fun w'=>vHe X.dev S.dv.A S.dv.n S.dv.c hle hcap w');have ql:=nc.2;have f0:=nc.1 0 _ rfl;generalize plB X.dev (S.dv.n:Int)=V at *;clear nc
 go_enter Tryz.func120,Tryz.ntmps120
 go_wp2_with (go_at_call 118;(with_reducible refine (PV.out _).mono ?_);rintro e wp ⟨rfl,hwp⟩;subst hwp);go_ret;exact ⟨rfl,vAc _ _⟩
theorem enters_dev3:vAz Tryz.prog 120:=vAt Tryz.func120 (by kernel_rfl) rfl
theorem dev_vrf (S:NSl3) (X:VrfV) (s t:Sl3) (j:Int) (q:Nat) (w:World) (nc:Cs w q (vBk S)) (hle:S.dv.n≤S.dv.c) (hcap:S.dv.c≤9223372036854775807):Calls Tryz.prog 121 #[.int .i64 j,.agg #[.int .i64 X.row,.int .i64 X.dev,.string (str X.name),.slice s.A s.n s.c,.slice t.A t.n t.c],.pointer (some ⟨q,0,none⟩)] w fun e w'=>e=.returned (.bool (plB X.dev (S.dv.n:Int)))∧Below w.heap.size w w':=by
 have PV:=hid (fun w'=>vHe X.dev S.dv.A S.dv.n S.dv.c hle hcap w');have ql:=nc.2;have f0:=nc.1 0 _ rfl;generalize plB X.dev (S.dv.n:Int)=V at *;clear nc
 go_enter Tryz.func121,Tryz.ntmps121
 go_wp2_with (go_at_call 118;(with_reducible refine (PV.out _).mono ?_);rintro e wp ⟨rfl,hwp⟩;subst hwp);go_ret;exact ⟨rfl,vAc _ _⟩
theorem enters_dev4:vAz Tryz.prog 121:=vAt Tryz.func121 (by kernel_rfl) rfl
theorem right_port (N:NV) (S:NSl3) (i:Nat) (X:PortV) (s:Sl3) (q:Nat) (w:World) (h:NRead w (vAp w) N S) (nc:Cs w q (vBk S)) (l1:RSl (Rdr.int .i64) w (vAp w) s.A s.n s.c X.tagged):Calls Tryz.prog 65 #[.int .i64 (i:Int),.agg #[.int .i64 X.row,.int .i64 X.dev,.int .i64 X.native,.int .i64 X.cost,.int .i64 X.link,.string (str X.name),.slice s.A s.n s.c],.pointer (some ⟨q,0,none⟩)] w fun e w'=>e=.returned (.bool (ptR N i X))∧Below w.heap.size w w':=by
 have PV:=fun (w':World) (hb:Below w.heap.size w w')=>port_any N S i X s w' (h.up hb) (vAn l1 hb)
 have ql:=nc.2;have n:=nc.1;have f0:=n 0 _ rfl;have f1:=n 1 _ rfl;have f2:=n 2 _ rfl;have f3:=n 3 _ rfl;have f4:=n 4 _ rfl;have f5:=n 5 _ rfl;have f6:=n 6 _ rfl;have f7:=n 7 _ rfl;unfold vAm at PV;generalize ptR N i X=V at *;have PV:=hid PV;clear nc h n l1
 go_enter Tryz.func65,Tryz.ntmps65
 go_wp2_with (go_at_call 66;(with_reducible refine (PV.out _ (vAc _ _)).mono ?_);rintro e w1 ⟨rfl,hb⟩;have B:=hid (vAa (vAc _ _) hb);clear hb);go_ret;exact ⟨rfl,B.out⟩
theorem enters_right1:vAz Tryz.prog 65:=vAt Tryz.func65 (by kernel_rfl) rfl
theorem right_link (N:NV) (S:NSl3) (i:Nat) (X:LinkV) (q:Nat) (w:World) (h:NRead w (vAp w) N S) (nc:Cs w q (vBk S)):Calls Tryz.prog 68 #[.int .i64 (i:Int),.agg #[.int .i64 X.row,.int .i64 X.a,.int .i64 X.b],.pointer (some ⟨q,0,none⟩)] w fun e w'=>e=.returned (.bool (lkB N i X))∧Below w.heap.size w w':=by
 have PV:=fun (w':World) (hb:Below w.heap.size w w')=>link_any N S i X w' (h.up hb)
 have ql:=nc.2;have n:=nc.1;have f0:=n 0 _ rfl;have f1:=n 1 _ rfl;have f2:=n 2 _ rfl;have f3:=n 3 _ rfl;have f4:=n 4 _ rfl;have f5:=n 5 _ rfl;have f6:=n 6 _ rfl;have f7:=n 7 _ rfl;unfold vAm at PV;generalize lkB N i X=V at *;have PV:=hid PV;clear nc h n
 go_enter Tryz.func68,Tryz.ntmps68
 go_wp2_with (go_at_call 69;(with_reducible refine (PV.out _ (vAc _ _)).mono ?_);rintro e w1 ⟨rfl,hb⟩;have B:=hid (vAa (vAc _ _) hb);clear hb);go_ret;exact ⟨rfl,B.out⟩
theorem enters_right2:vAz Tryz.prog 68:=vAt Tryz.func68 (by kernel_rfl) rfl
theorem right_dom (N:NV) (S:NSl3) (i:Nat) (X:DomV) (s:Sl3) (q:Nat) (w:World) (h:NRead w (vAp w) N S) (nc:Cs w q (vBk S)) (l1:RSl (Rdr.int .i64) w (vAp w) s.A s.n s.c X.peers) (hil:i<S.dm.n) (hd:∀j,j<N.domains.length→plB (N.domains.getD j DomV.zero).dev (N.devices.length:Int)=true):Calls Tryz.prog 71 #[.int .i64 (i:Int),.agg #[.int .i64 X.dev,.int .i64 X.vlan,.int .i64 X.vni,.int .i64 X.irb,.int .i64 X.row,.slice s.A s.n s.c],.pointer (some ⟨q,0,none⟩)] w fun e w'=>e=.returned (.bool (dmR N i X))∧Below w.heap.size w w':=by
 have PV:=fun (w':World) (hb:Below w.heap.size w w')=>domain_any N S i X s w' (h.up hb) (vAn l1 hb) hil hd
 have ql:=nc.2;have n:=nc.1;have f0:=n 0 _ rfl;have f1:=n 1 _ rfl;have f2:=n 2 _ rfl;have f3:=n 3 _ rfl;have f4:=n 4 _ rfl;have f5:=n 5 _ rfl;have f6:=n 6 _ rfl;have f7:=n 7 _ rfl;unfold vAm at PV;generalize dmR N i X=V at *;have PV:=hid PV;clear nc h n l1
 go_enter Tryz.func71,Tryz.ntmps71
 go_wp2_with (go_at_call 72;(with_reducible refine (PV.out _ (vAc _ _)).mono ?_);rintro e w1 ⟨rfl,hb⟩;have B:=hid (vAa (vAc _ _) hb);clear hb);go_ret;exact ⟨rfl,B.out⟩
theorem enters_right3:vAz Tryz.prog 71:=vAt Tryz.func71 (by kernel_rfl) rfl
theorem right_stat (N:NV) (S:NSl3) (i:Nat) (X:StatV) (q:Nat) (w:World) (h:NRead w (vAp w) N S) (nc:Cs w q (vBk S)):Calls Tryz.prog 74 #[.int .i64 (i:Int),.agg #[.int .i64 X.row,.int .i64 X.dom,.int .i64 X.port,.int .u64 X.mac],.pointer (some ⟨q,0,none⟩)] w fun e w'=>e=.returned (.bool (nstB N X))∧Below w.heap.size w w':=by
 have PV:=fun (w':World) (hb:Below w.heap.size w w')=>static_any N S X w' (h.up hb)
 have ql:=nc.2;have n:=nc.1;have f0:=n 0 _ rfl;have f1:=n 1 _ rfl;have f2:=n 2 _ rfl;have f3:=n 3 _ rfl;have f4:=n 4 _ rfl;have f5:=n 5 _ rfl;have f6:=n 6 _ rfl;have f7:=n 7 _ rfl;unfold vAm at PV;generalize nstB N X=V at *;have PV:=hid PV;clear nc h n
 go_enter Tryz.func74,Tryz.ntmps74
 go_wp2_with (go_at_call 75;(with_reducible refine (PV.out _ (vAc _ _)).mono ?_);rintro e w1 ⟨rfl,hb⟩;have B:=hid (vAa (vAc _ _) hb);clear hb);go_ret;exact ⟨rfl,B.out⟩
theorem enters_right4:vAz Tryz.prog 74:=vAt Tryz.func74 (by kernel_rfl) rfl
theorem right_irb (N:NV) (S:NSl3) (i:Nat) (X:IrbV) (q:Nat) (w:World) (h:NRead w (vAp w) N S) (nc:Cs w q (vBk S)):Calls Tryz.prog 82 #[.int .i64 (i:Int),.agg #[.int .i64 X.row,.int .i64 X.dom,.int .i64 X.vrf,.int .u32 X.addr,.int .i64 X.bits],.pointer (some ⟨q,0,none⟩)] w fun e w'=>e=.returned (.bool (irB N i X))∧Below w.heap.size w w':=by
 have PV:=fun (w':World) (hb:Below w.heap.size w w')=>irb_any N S i X w' (h.up hb)
 have ql:=nc.2;have n:=nc.1;have f0:=n 0 _ rfl;have f1:=n 1 _ rfl;have f2:=n 2 _ rfl;have f3:=n 3 _ rfl;have f4:=n 4 _ rfl;have f5:=n 5 _ rfl;have f6:=n 6 _ rfl;have f7:=n 7 _ rfl;unfold vAm at PV;generalize irB N i X=V at *;have PV:=hid PV;clear nc h n
 go_enter Tryz.func82,Tryz.ntmps82
 go_wp2_with (go_at_call 83;(with_reducible refine (PV.out _ (vAc _ _)).mono ?_);rintro e w1 ⟨rfl,hb⟩;have B:=hid (vAa (vAc _ _) hb);clear hb);go_ret;exact ⟨rfl,B.out⟩
theorem enters_right7:vAz Tryz.prog 82:=vAt Tryz.func82 (by kernel_rfl) rfl
theorem right_flood (X:FloodV) (s:Sl3) (j:Int) (w:World) (hl:X.addrs.length=s.n):Calls Tryz.prog 77 #[.int .i64 j,.agg #[.int .i64 X.row,.int .i64 X.dev,.int .i64 X.vni,.slice s.A s.n s.c]] w fun e w'=>e=.returned (.bool (decide (X.addrs.length≤16)))∧Below w.heap.size w w':=by
 rw [hl];clear hl
 by_cases t:s.n≤16
 · have z:(s.n:Int)≤16:=by omega
   rw [decide_eq_true t];clear t
   go_enter Tryz.func77,Tryz.ntmps77
   go_wp2;go_ret;exact ⟨rfl,vAc _ _⟩
 · have z:¬(s.n:Int)≤16:=by omega
   rw [decide_eq_false t];clear t
   go_enter Tryz.func77,Tryz.ntmps77
   go_wp2;go_ret;exact ⟨rfl,vAc _ _⟩
theorem enters_right5:vAz Tryz.prog 77:=vAt Tryz.func77 (by kernel_rfl) rfl
theorem right_vrf (X:VrfV) (s t:Sl3) (j:Int) (w:World) (l1:RSl (Rdr.int .i64) w (vAp w) s.A s.n s.c X.imports) (l2:RSl (Rdr.int .i64) w (vAp w) t.A t.n t.c X.exports):Calls Tryz.prog 79 #[.int .i64 j,.agg #[.int .i64 X.row,.int .i64 X.dev,.string (str X.name),.slice s.A s.n s.c,.slice t.A t.n t.c]] w fun e w'=>e=.returned (.bool (rsB X.imports 65535 && rsB X.exports 65535))∧Below w.heap.size w w':=by
 have R1:=fun (w':World) (hb:Below w.heap.size w w')=>rises_any s.A s.n s.c X.imports 65535 w' (vAu (vAn l1 hb))
 have R2:=fun (w':World) (hb:Below w.heap.size w w')=>rises_any t.A t.n t.c X.exports 65535 w' (vAu (vAn l2 hb))
 obtain ⟨v1,h1⟩:∃v,rsB X.imports 65535=v:=⟨_,rfl⟩;obtain ⟨v2,h2⟩:∃v,rsB X.exports 65535=v:=⟨_,rfl⟩;rw [h1] at R1 ⊢;rw [h2] at R2 ⊢
 have K:=hid (show ∀wx,Drew (w.alloc (.cells #[.int .i64 X.row,.int .i64 X.dev,.string (str X.name),.slice s.A s.n s.c,.slice t.A t.n t.c] 74)) wx→wx.cell? ⟨w.heap.size,4,none⟩=some (.slice t.A t.n t.c) from fun wx hx=>by
  have c:(w.alloc (.cells #[.int .i64 X.row,.int .i64 X.dev,.string (str X.name),.slice s.A s.n s.c,.slice t.A t.n t.c] 74)).cell? ⟨w.heap.size,4,none⟩=some (.slice t.A t.n t.c):=by simp [go_sem]
  have l:w.heap.size<(w.alloc (.cells #[.int .i64 X.row,.int .i64 X.dev,.string (str X.name),.slice s.A s.n s.c,.slice t.A t.n t.c] 74)).heap.size:=by simp
  have b:Below (w.alloc (.cells #[.int .i64 X.row,.int .i64 X.dev,.string (str X.name),.slice s.A s.n s.c,.slice t.A t.n t.c] 74)).heap.size (w.alloc (.cells #[.int .i64 X.row,.int .i64 X.dev,.string (str X.name),.slice s.A s.n s.c,.slice t.A t.n t.c] 74)) wx:=Below.drew (Below.refl _ _) hx
  exact (b.cell (p:=⟨w.heap.size,4,none⟩) l).trans c)
 have R1:=hid R1;have R2:=hid R2;clear l1 l2 h1 h2
 cases v1
 · go_enter Tryz.func79,Tryz.ntmps79
   go_wp2_with (go_at_call 80;(with_reducible refine (R1.out _ (vAc _ _)).mono ?_);rintro e w1 ⟨rfl,hd⟩;have B:=hid (Below.drew (vAc w _) hd);clear hd);go_ret;exact ⟨rfl,B.out⟩
 · go_enter Tryz.func79,Tryz.ntmps79
   go_wp2_with (first
    |(go_at_call 80;(with_reducible refine (R1.out _ (vAc _ _)).mono ?_);rintro e w1 ⟨rfl,hd⟩;have B:=hid (Below.drew (vAc w _) hd);have k4:=K.out _ hd;clear hd)
    |(go_at_call 80;(with_reducible refine (R2.out _ B.out).mono ?_);rintro e w2 ⟨rfl,hd⟩;have B2:=hid (Below.drew B.out hd);clear hd))
   go_ret;exact ⟨by simp,B2.out⟩
theorem enters_right6:vAz Tryz.prog 79:=vAt Tryz.func79 (by kernel_rfl) rfl
def fewB (S:NSl3):Bool:=decide (S.dv.n≤8) && (decide (S.pt.n≤40) && (decide (S.lk.n≤20) && (decide (S.dm.n≤48) && (decide (S.st.n≤64) && (decide (S.fl.n≤48) && (decide (S.vr.n≤16) && (decide (S.ir.n≤48))))))))
theorem few_any (S:NSl3) (w:World):Calls Tryz.prog 62 #[vAm S] w fun e w'=>e=.returned (.bool (fewB S))∧Below w.heap.size w w':=by
 have B0:=hid (vAc w (.cells (nA S) 31));obtain ⟨V,E⟩:∃V,fewB S=V:=⟨_,rfl⟩;rw [E];unfold fewB at E;have E:=hid E;unfold vAm
 by_cases t1:S.dv.n≤8
 rotate_left
 · have z1:¬(S.dv.n:Int)≤8:=by omega
   have EV:=hid (show V=false by rw [←E.out,decide_eq_false t1];simp);clear t1
   go_enter Tryz.func62,Tryz.ntmps62
   go_wp2;go_ret;exact ⟨by rw [EV.out];rfl,B0.out⟩
 have z1:(S.dv.n:Int)≤8:=by omega
 by_cases t2:S.pt.n≤40
 rotate_left
 · have z2:¬(S.pt.n:Int)≤40:=by omega
   have EV:=hid (show V=false by rw [←E.out,decide_eq_false t2];simp);clear t1 t2
   go_enter Tryz.func62,Tryz.ntmps62
   go_wp2;go_ret;exact ⟨by rw [EV.out];rfl,B0.out⟩
 have z2:(S.pt.n:Int)≤40:=by omega
 by_cases t3:S.lk.n≤20
 rotate_left
 · have z3:¬(S.lk.n:Int)≤20:=by omega
   have EV:=hid (show V=false by rw [←E.out,decide_eq_false t3];simp);clear t1 t2 t3
   go_enter Tryz.func62,Tryz.ntmps62
   go_wp2;go_ret;exact ⟨by rw [EV.out];rfl,B0.out⟩
 have z3:(S.lk.n:Int)≤20:=by omega
 by_cases t4:S.dm.n≤48
 rotate_left
 · have z4:¬(S.dm.n:Int)≤48:=by omega
   have EV:=hid (show V=false by rw [←E.out,decide_eq_false t4];simp);clear t1 t2 t3 t4
   go_enter Tryz.func62,Tryz.ntmps62
   go_wp2;go_ret;exact ⟨by rw [EV.out];rfl,B0.out⟩
 have z4:(S.dm.n:Int)≤48:=by omega
 by_cases t5:S.st.n≤64
 rotate_left
 · have z5:¬(S.st.n:Int)≤64:=by omega
   have EV:=hid (show V=false by rw [←E.out,decide_eq_false t5];simp);clear t1 t2 t3 t4 t5
   go_enter Tryz.func62,Tryz.ntmps62
   go_wp2;go_ret;exact ⟨by rw [EV.out];rfl,B0.out⟩
 have z5:(S.st.n:Int)≤64:=by omega
 by_cases t6:S.fl.n≤48
 rotate_left
 · have z6:¬(S.fl.n:Int)≤48:=by omega
   have EV:=hid (show V=false by rw [←E.out,decide_eq_false t6];simp);clear t1 t2 t3 t4 t5 t6
   go_enter Tryz.func62,Tryz.ntmps62
   go_wp2;go_ret;exact ⟨by rw [EV.out];rfl,B0.out⟩
 have z6:(S.fl.n:Int)≤48:=by omega
 by_cases t7:S.vr.n≤16
 rotate_left
 · have z7:¬(S.vr.n:Int)≤16:=by omega
   have EV:=hid (show V=false by rw [←E.out,decide_eq_false t7];simp);clear t1 t2 t3 t4 t5 t6 t7
   go_enter Tryz.func62,Tryz.ntmps62
   go_wp2;go_ret;exact ⟨by rw [EV.out];rfl,B0.out⟩
 have z7:(S.vr.n:Int)≤16:=by omega
 by_cases t8:S.ir.n≤48
 rotate_left
 · have z8:¬(S.ir.n:Int)≤48:=by omega
   have EV:=hid (show V=false by rw [←E.out,decide_eq_false t8];simp);clear t1 t2 t3 t4 t5 t6 t7 t8
   go_enter Tryz.func62,Tryz.ntmps62
   go_wp2;go_ret;exact ⟨by rw [EV.out];rfl,B0.out⟩
 have z8:(S.ir.n:Int)≤48:=by omega
 have EV:=hid (show V=true by rw [←E.out,decide_eq_true t1,decide_eq_true t2,decide_eq_true t3,decide_eq_true t4,decide_eq_true t5,decide_eq_true t6,decide_eq_true t7,decide_eq_true t8];rfl);clear t1 t2 t3 t4 t5 t6 t7 t8
 go_enter Tryz.func62,Tryz.ntmps62
 go_wp2;go_ret;exact ⟨by rw [EV.out];rfl,B0.out⟩
theorem devices_any (N:NV) (S:NSl3) (w:World) (h:NRead w (vAp w) N S) (V:Bool) (hV:V=true↔(∀k,k<S.pt.n→plB (N.ports.getD k PortV.zero).dev (S.dv.n:Int)=true)∧(∀k,k<S.dm.n→plB (N.domains.getD k DomV.zero).dev (S.dv.n:Int)=true)∧(∀k,k<S.fl.n→plB (N.floods.getD k FloodV.zero).dev (S.dv.n:Int)=true)∧(∀k,k<S.vr.n→plB (N.vrfs.getD k VrfV.zero).dev (S.dv.n:Int)=true)):
 Calls Tryz.prog 63 #[vAm S] w fun e w'=>e=.returned (.bool V)∧Below w.heap.size w w':=by
 obtain ⟨v1,h1⟩:∃v:Bool,v=true↔∀k,k<S.pt.n→plB (N.ports.getD k PortV.zero).dev (S.dv.n:Int)=true:=by
  refine ⟨@decide (∀k,k<S.pt.n→plB (N.ports.getD k PortV.zero).dev (S.dv.n:Int)=true) (Classical.propDecidable _),?_⟩;exact @decide_eq_true_iff _ (Classical.propDecidable _)
 have A1:=fun (w':World) (hb:Below w.heap.size w w') (nc:Cs w' w.heap.size (vBk S))=>all_port 117 #[.pointer (some ⟨w.heap.size,0,none⟩)] enters_dev1 S.pt.A S.pt.n S.pt.c N.ports w' (vAn h.pt hb) (fun k=>plB (N.ports.getD k PortV.zero).dev (S.dv.n:Int)) (fun k s w2 hk hb2 l1=>by
  rw [app21]
  exact dev_port S _ s _ _ w2 (nc.below hb2) h.dv.le h.dv.cap) v1 h1
 obtain ⟨v2,h2⟩:∃v:Bool,v=true↔∀k,k<S.dm.n→plB (N.domains.getD k DomV.zero).dev (S.dv.n:Int)=true:=by
  refine ⟨@decide (∀k,k<S.dm.n→plB (N.domains.getD k DomV.zero).dev (S.dv.n:Int)=true) (Classical.propDecidable _),?_⟩;exact @decide_eq_true_iff _ (Classical.propDecidable _)
 have A2:=fun (w':World) (hb:Below w.heap.size w w') (nc:Cs w' w.heap.size (vBk S))=>all_dom 119 #[.pointer (some ⟨w.heap.size,0,none⟩)] enters_dev2 S.dm.A S.dm.n S.dm.c N.domains w' (vAn h.dm hb) (fun k=>plB (N.domains.getD k DomV.zero).dev (S.dv.n:Int)) (fun k s w2 hk hb2 l1=>by
  rw [app21]
  exact dev_dom S _ s _ _ w2 (nc.below hb2) h.dv.le h.dv.cap) v2 h2
 obtain ⟨v3,h3⟩:∃v:Bool,v=true↔∀k,k<S.fl.n→plB (N.floods.getD k FloodV.zero).dev (S.dv.n:Int)=true:=by
  refine ⟨@decide (∀k,k<S.fl.n→plB (N.floods.getD k FloodV.zero).dev (S.dv.n:Int)=true) (Classical.propDecidable _),?_⟩;exact @decide_eq_true_iff _ (Classical.propDecidable _)
 have A3:=fun (w':World) (hb:Below w.heap.size w w') (nc:Cs w' w.heap.size (vBk S))=>all_flood 120 #[.pointer (some ⟨w.heap.size,0,none⟩)] enters_dev3 S.fl.A S.fl.n S.fl.c N.floods w' (vAn h.fl hb) (fun k=>plB (N.floods.getD k FloodV.zero).dev (S.dv.n:Int)) (fun k s w2 hk hb2 l1=>by
  rw [app21]
  exact dev_flood S _ s _ _ w2 (nc.below hb2) h.dv.le h.dv.cap) v3 h3
 obtain ⟨v4,h4⟩:∃v:Bool,v=true↔∀k,k<S.vr.n→plB (N.vrfs.getD k VrfV.zero).dev (S.dv.n:Int)=true:=by
  refine ⟨@decide (∀k,k<S.vr.n→plB (N.vrfs.getD k VrfV.zero).dev (S.dv.n:Int)=true) (Classical.propDecidable _),?_⟩;exact @decide_eq_true_iff _ (Classical.propDecidable _)
 have A4:=fun (w':World) (hb:Below w.heap.size w w') (nc:Cs w' w.heap.size (vBk S))=>all_vrf 121 #[.pointer (some ⟨w.heap.size,0,none⟩)] enters_dev4 S.vr.A S.vr.n S.vr.c N.vrfs w' (vAn h.vr hb) (fun k=>plB (N.vrfs.getD k VrfV.zero).dev (S.dv.n:Int)) (fun k s t w2 hk hb2 l1 l2=>by
  rw [app21]
  exact dev_vrf S _ s t _ _ w2 (nc.below hb2) h.dv.le h.dv.cap) v4 h4
 rw [←h1,←h2,←h3,←h4] at hV;have HV:=hid hV;have A1:=hid A1;have A2:=hid A2;have A3:=hid A3;have A4:=hid A4;clear h hV h1 h2 h3 h4;unfold vAm
 go_enter Tryz.func63,Tryz.ntmps63
 go_upto_region 1 with fail
 obtain ⟨W,hW⟩:∃W,w.alloc (.cells (nA S) 31)=W:=⟨_,rfl⟩;have NC:=net_c1 S _ hW;rw [hW];clear hW
 have KQ:=hid (show ∀wx,Below W.heap.size W wx→(NF wx w.heap.size S)∧Cs wx w.heap.size (vBk S)∧Below w.heap.size w wx from fun wx hx=>by
  have n:=(NC.1.below hx).1
  exact ⟨⟨n 0 _ rfl,n 1 _ rfl,n 2 _ rfl,n 3 _ rfl,n 4 _ rfl,n 5 _ rfl,n 6 _ rfl,n 7 _ rfl⟩,NC.1.below hx,NC.2.trans (hx.mono NC.2.size)⟩)
 obtain ⟨⟨f0,f1,f2,f3,f4,f5,f6,f7⟩,nc0,hB0⟩:=KQ.out W (Below.refl _ _);have ql:=nc0.2;have Y0:=hid (Below.refl W.heap.size W);clear NC hB0 nc0
 cases v1 with
 |false=>
  have EV:=hid (show V=false by
   cases V with
   |false=>rfl
   |true=>have:=HV.out.1 rfl;simp at this)
  go_wp2_with (first|(go_at_call 64;(with_reducible refine (A1.out _ (KQ.out _ Y0.out).2.2 (KQ.out _ Y0.out).2.1).mono ?_);rintro e w1 ⟨rfl,hb⟩;have Y1:=hid (vAa Y0.out hb);obtain ⟨⟨f0,f1,f2,f3,f4,f5,f6,f7⟩,_⟩:=KQ.out _ Y1.out;clear hb));go_ret;exact ⟨by rw [EV.out];rfl,(KQ.out _ Y1.out).2.2⟩
 |true=>
 cases v2 with
 |false=>
  have EV:=hid (show V=false by
   cases V with
   |false=>rfl
   |true=>have:=HV.out.1 rfl;simp at this)
  go_wp2_with (first|(go_at_call 64;(with_reducible refine (A1.out _ (KQ.out _ Y0.out).2.2 (KQ.out _ Y0.out).2.1).mono ?_);rintro e w1 ⟨rfl,hb⟩;have Y1:=hid (vAa Y0.out hb);obtain ⟨⟨f0,f1,f2,f3,f4,f5,f6,f7⟩,_⟩:=KQ.out _ Y1.out;clear hb)|(go_at_call 70;(with_reducible refine (A2.out _ (KQ.out _ Y1.out).2.2 (KQ.out _ Y1.out).2.1).mono ?_);rintro e w2 ⟨rfl,hb⟩;have Y2:=hid (vAa Y1.out hb);obtain ⟨⟨f0,f1,f2,f3,f4,f5,f6,f7⟩,_⟩:=KQ.out _ Y2.out;clear hb))
  go_ret;exact ⟨by rw [EV.out];rfl,(KQ.out _ Y2.out).2.2⟩
 |true=>
 cases v3 with
 |false=>
  have EV:=hid (show V=false by
   cases V with
   |false=>rfl
   |true=>have:=HV.out.1 rfl;simp at this)
  go_wp2_with (first|(go_at_call 64;(with_reducible refine (A1.out _ (KQ.out _ Y0.out).2.2 (KQ.out _ Y0.out).2.1).mono ?_);rintro e w1 ⟨rfl,hb⟩;have Y1:=hid (vAa Y0.out hb);obtain ⟨⟨f0,f1,f2,f3,f4,f5,f6,f7⟩,_⟩:=KQ.out _ Y1.out;clear hb)|(go_at_call 70;(with_reducible refine (A2.out _ (KQ.out _ Y1.out).2.2 (KQ.out _ Y1.out).2.1).mono ?_);rintro e w2 ⟨rfl,hb⟩;have Y2:=hid (vAa Y1.out hb);obtain ⟨⟨f0,f1,f2,f3,f4,f5,f6,f7⟩,_⟩:=KQ.out _ Y2.out;clear hb)|(go_at_call 76;(with_reducible refine (A3.out _ (KQ.out _ Y2.out).2.2 (KQ.out _ Y2.out).2.1).mono ?_);rintro e w3 ⟨rfl,hb⟩;have Y3:=hid (vAa Y2.out hb);obtain ⟨⟨f0,f1,f2,f3,f4,f5,f6,f7⟩,_⟩:=KQ.out _ Y3.out;clear hb))
  go_ret;exact ⟨by rw [EV.out];rfl,(KQ.out _ Y3.out).2.2⟩
 |true=>
 cases v4 with
 |false=>
  have EV:=hid (show V=false by
   cases V with
   |false=>rfl
   |true=>have:=HV.out.1 rfl;simp at this)
  go_wp2_with (first|(go_at_call 64;(with_reducible refine (A1.out _ (KQ.out _ Y0.out).2.2 (KQ.out _ Y0.out).2.1).mono ?_);rintro e w1 ⟨rfl,hb⟩;have Y1:=hid (vAa Y0.out hb);obtain ⟨⟨f0,f1,f2,f3,f4,f5,f6,f7⟩,_⟩:=KQ.out _ Y1.out;clear hb)|(go_at_call 70;(with_reducible refine (A2.out _ (KQ.out _ Y1.out).2.2 (KQ.out _ Y1.out).2.1).mono ?_);rintro e w2 ⟨rfl,hb⟩;have Y2:=hid (vAa Y1.out hb);obtain ⟨⟨f0,f1,f2,f3,f4,f5,f6,f7⟩,_⟩:=KQ.out _ Y2.out;clear hb)|(go_at_call 76;(with_reducible refine (A3.out _ (KQ.out _ Y2.out).2.2 (KQ.out _ Y2.out).2.1).mono ?_);rintro e w3 ⟨rfl,hb⟩;have Y3:=hid (vAa Y2.out hb);obtain ⟨⟨f0,f1,f2,f3,f4,f5,f6,f7⟩,_⟩:=KQ.out _ Y3.out;clear hb)|(go_at_call 78;(with_reducible refine (A4.out _ (KQ.out _ Y3.out).2.2 (KQ.out _ Y3.out).2.1).mono ?_);rintro e w4 ⟨rfl,hb⟩;have Y4:=hid (vAa Y3.out hb);obtain ⟨⟨f0,f1,f2,f3,f4,f5,f6,f7⟩,_⟩:=KQ.out _ Y4.out;clear hb))
  go_ret;exact ⟨by rw [EV.out];rfl,(KQ.out _ Y4.out).2.2⟩
 |true=>
 have EV:=hid (show V=true from HV.out.2 (by simp));go_wp2_with (first|(go_at_call 64;(with_reducible refine (A1.out _ (KQ.out _ Y0.out).2.2 (KQ.out _ Y0.out).2.1).mono ?_);rintro e w1 ⟨rfl,hb⟩;have Y1:=hid (vAa Y0.out hb);obtain ⟨⟨f0,f1,f2,f3,f4,f5,f6,f7⟩,_⟩:=KQ.out _ Y1.out;clear hb)|(go_at_call 70;(with_reducible refine (A2.out _ (KQ.out _ Y1.out).2.2 (KQ.out _ Y1.out).2.1).mono ?_);rintro e w2 ⟨rfl,hb⟩;have Y2:=hid (vAa Y1.out hb);obtain ⟨⟨f0,f1,f2,f3,f4,f5,f6,f7⟩,_⟩:=KQ.out _ Y2.out;clear hb)|(go_at_call 76;(with_reducible refine (A3.out _ (KQ.out _ Y2.out).2.2 (KQ.out _ Y2.out).2.1).mono ?_);rintro e w3 ⟨rfl,hb⟩;have Y3:=hid (vAa Y2.out hb);obtain ⟨⟨f0,f1,f2,f3,f4,f5,f6,f7⟩,_⟩:=KQ.out _ Y3.out;clear hb)|(go_at_call 78;(with_reducible refine (A4.out _ (KQ.out _ Y3.out).2.2 (KQ.out _ Y3.out).2.1).mono ?_);rintro e w4 ⟨rfl,hb⟩;have Y4:=hid (vAa Y3.out hb);obtain ⟨⟨f0,f1,f2,f3,f4,f5,f6,f7⟩,_⟩:=KQ.out _ Y4.out;clear hb))
 go_ret;exact ⟨by rw [EV.out];rfl,(KQ.out _ Y4.out).2.2⟩
theorem vDt (N:NV) (S:NSl3) (w:World) (h:NRead w (vAp w) N S) (_hs:NvSz N):Calls Tryz.prog 23 #[vAm S] w fun e w'=>e=.returned (.bool (vHw N))∧Below w.heap.size w w':=by
 have L_dv:=h.dv.len;have L_pt:=h.pt.len;have L_lk:=h.lk.len;have L_dm:=h.dm.len;have L_st:=h.st.len;have L_fl:=h.fl.len;have L_vr:=h.vr.len;have L_ir:=h.ir.len;have NI:=netB_iff N;obtain ⟨V,E⟩:∃V,vHw N=V:=⟨_,rfl⟩;rw [E] at NI ⊢;have FW:=hid (fun w'=>few_any S w');obtain ⟨va,ha⟩:∃v,fewB S=v:=⟨_,rfl⟩;rw [ha] at FW
 obtain ⟨vb,hb_⟩:∃v:Bool,v=true↔(∀k,k<S.pt.n→plB (N.ports.getD k PortV.zero).dev (S.dv.n:Int)=true)∧(∀k,k<S.dm.n→plB (N.domains.getD k DomV.zero).dev (S.dv.n:Int)=true)∧(∀k,k<S.fl.n→plB (N.floods.getD k FloodV.zero).dev (S.dv.n:Int)=true)∧(∀k,k<S.vr.n→plB (N.vrfs.getD k VrfV.zero).dev (S.dv.n:Int)=true):=
  ⟨@decide _ (Classical.propDecidable _),@decide_eq_true_iff _ (Classical.propDecidable _)⟩
 have DV:=hid (fun (w':World) (hb:Below w.heap.size w w')=>devices_any N S w' (h.up hb) vb hb_);unfold vAm at FW DV;have HA:=hid (show va=true↔S.dv.n≤8∧S.pt.n≤40∧S.lk.n≤20∧S.dm.n≤48∧S.st.n≤64∧S.fl.n≤48∧S.vr.n≤16∧S.ir.n≤48 by rw [←ha];simp [fewB])
 have KB:=hid (show ∀W,w.alloc (.cells (nA S) 31)=W→∀wx,Below W.heap.size W wx→(NF wx w.heap.size S)∧Cs wx w.heap.size (vBk S)∧Below w.heap.size w wx from fun W hW wx hx=>by
  have NC:=net_c1 S _ hW;have n:=(NC.1.below hx).1
  exact ⟨⟨n 0 _ rfl,n 1 _ rfl,n 2 _ rfl,n 3 _ rfl,n 4 _ rfl,n 5 _ rfl,n 6 _ rfl,n 7 _ rfl⟩,NC.1.below hx,NC.2.trans (hx.mono NC.2.size)⟩)
 unfold vAm
 go_enter Tryz.func23,Tryz.ntmps23
 go_upto_region 1 with fail
 obtain ⟨W,hW⟩:∃W,w.alloc (.cells (nA S) 31)=W:=⟨_,rfl⟩;rw [hW];have KQ:=hid (KB.out W hW);clear hW KB;obtain ⟨⟨f0,f1,f2,f3,f4,f5,f6,f7⟩,nc0,hB0⟩:=KQ.out W (Below.refl _ _);have ql:=nc0.2;have Y0:=hid (Below.refl W.heap.size W);clear hB0 nc0
 cases va with
 |false=>
  have EV:=hid (show V=false by
   cases hV:V with
   |false=>rfl
   |true=>
    have g:=NI.1 hV
    have:=HA.out.2 ⟨L_dv▸g.zdv,L_pt▸g.zpt,L_lk▸g.zlk,L_dm▸g.zdm,L_st▸g.zst,L_fl▸g.zfl,L_vr▸g.zvr,L_ir▸g.zir⟩
    cases this)
  clear h NI ha hb_;go_wp2_with ((go_at_call 62;(with_reducible refine (FW.out _).mono ?_);rintro e wa ⟨rfl,hb⟩;have Y1:=hid (vAa Y0.out hb);obtain ⟨⟨f0,f1,f2,f3,f4,f5,f6,f7⟩,_⟩:=KQ.out _ Y1.out;clear hb));go_ret;exact ⟨by rw [EV.out];rfl,(KQ.out _ Y1.out).2.2⟩
 |true=>
 cases vb with
 |false=>
  have EV:=hid (show V=false by
   cases hV:V with
   |false=>rfl
   |true=>
    have g:=NI.1 hV
    have:=hb_.2 ⟨fun k hk=>by rw [←L_dv];exact (g.pt k (by omega)).dev,fun k hk=>by rw [←L_dv];exact (g.dm.1 k (by omega)).dev,fun k hk=>by rw [←L_dv];exact (g.rs.fl k (by omega)).dev,fun k hk=>by rw [←L_dv];exact (g.rs.vr k (by omega)).dev⟩
    cases this)
  clear h NI ha hb_;go_wp2_with (first|(go_at_call 62;(with_reducible refine (FW.out _).mono ?_);rintro e wa ⟨rfl,hb⟩;have Y1:=hid (vAa Y0.out hb);obtain ⟨⟨f0,f1,f2,f3,f4,f5,f6,f7⟩,_⟩:=KQ.out _ Y1.out;clear hb)|(go_at_call 63;(with_reducible refine (DV.out _ (KQ.out _ Y1.out).2.2).mono ?_);rintro e wb ⟨rfl,hb⟩;have Y2:=hid (vAa Y1.out hb);obtain ⟨⟨f0,f1,f2,f3,f4,f5,f6,f7⟩,_⟩:=KQ.out _ Y2.out;clear hb))
  go_ret;exact ⟨by rw [EV.out];rfl,(KQ.out _ Y2.out).2.2⟩
 |true=>
 obtain ⟨p1,p2,p3,p4⟩:=hb_.1 rfl
 have hdm:∀j,j<N.domains.length→plB (N.domains.getD j DomV.zero).dev (N.devices.length:Int)=true:=fun j hj=>by rw [L_dv];exact p2 j (by omega)
 obtain ⟨v1,h1⟩:∃v:Bool,v=true↔∀k,k<S.pt.n→(ptR N k (N.ports.getD k PortV.zero))=true:=⟨@decide _ (Classical.propDecidable _),@decide_eq_true_iff _ (Classical.propDecidable _)⟩
 have A1:=fun (w':World) (hb:Below w.heap.size w w') (nc:Cs w' w.heap.size (vBk S))=>all_port 65 #[.pointer (some ⟨w.heap.size,0,none⟩)] enters_right1 S.pt.A S.pt.n S.pt.c N.ports w' (vAn h.pt hb) (fun k=>ptR N k (N.ports.getD k PortV.zero)) (fun k s w2 hk hb2 l1=>by
  rw [app21]
  exact right_port N S k _ s _ w2 ((h.up hb).up hb2) (nc.below hb2) (vAn l1 hb2)) v1 h1
 have A1:=hid A1;obtain ⟨v2,h2⟩:∃v:Bool,v=true↔∀k,k<S.lk.n→(lkB N k (N.links.getD k LinkV.zero))=true:=⟨@decide _ (Classical.propDecidable _),@decide_eq_true_iff _ (Classical.propDecidable _)⟩
 have A2:=fun (w':World) (hb:Below w.heap.size w w') (nc:Cs w' w.heap.size (vBk S))=>all_link 68 #[.pointer (some ⟨w.heap.size,0,none⟩)] enters_right2 S.lk.A S.lk.n S.lk.c N.links w' (vAn h.lk hb) (fun k=>lkB N k (N.links.getD k LinkV.zero)) (fun k w2 hk hb2=>by
  rw [app21]
  exact right_link N S k _ _ w2 ((h.up hb).up hb2) (nc.below hb2)) v2 h2
 have A2:=hid A2;obtain ⟨v3,h3⟩:∃v:Bool,v=true↔∀k,k<S.dm.n→(dmR N k (N.domains.getD k DomV.zero))=true:=⟨@decide _ (Classical.propDecidable _),@decide_eq_true_iff _ (Classical.propDecidable _)⟩
 have A3:=fun (w':World) (hb:Below w.heap.size w w') (nc:Cs w' w.heap.size (vBk S))=>all_dom 71 #[.pointer (some ⟨w.heap.size,0,none⟩)] enters_right3 S.dm.A S.dm.n S.dm.c N.domains w' (vAn h.dm hb) (fun k=>dmR N k (N.domains.getD k DomV.zero)) (fun k s w2 hk hb2 l1=>by
  rw [app21]
  exact right_dom N S k _ s _ w2 ((h.up hb).up hb2) (nc.below hb2) (vAn l1 hb2) hk hdm) v3 h3
 have A3:=hid A3;obtain ⟨v4,h4⟩:∃v:Bool,v=true↔∀k,k<S.st.n→(nstB N (N.statics.getD k StatV.zero))=true:=⟨@decide _ (Classical.propDecidable _),@decide_eq_true_iff _ (Classical.propDecidable _)⟩
 have A4:=fun (w':World) (hb:Below w.heap.size w w') (nc:Cs w' w.heap.size (vBk S))=>all_stat 74 #[.pointer (some ⟨w.heap.size,0,none⟩)] enters_right4 S.st.A S.st.n S.st.c N.statics w' (vAn h.st hb) (fun k=>nstB N (N.statics.getD k StatV.zero)) (fun k w2 hk hb2=>by
  rw [app21]
  exact right_stat N S k _ _ w2 ((h.up hb).up hb2) (nc.below hb2)) v4 h4
 have A4:=hid A4;obtain ⟨v5,h5⟩:∃v:Bool,v=true↔∀k,k<S.fl.n→(decide ((N.floods.getD k FloodV.zero).addrs.length≤16))=true:=⟨@decide _ (Classical.propDecidable _),@decide_eq_true_iff _ (Classical.propDecidable _)⟩
 have A5:=fun (w':World) (hb:Below w.heap.size w w') (nc:Cs w' w.heap.size (vBk S))=>all_flood 77 #[] enters_right5 S.fl.A S.fl.n S.fl.c N.floods w' (vAn h.fl hb) (fun k=>decide ((N.floods.getD k FloodV.zero).addrs.length≤16)) (fun k s w2 hk hb2 l1=>by
  rw [app20]
  exact right_flood _ s _ w2 l1.len) v5 h5
 have A5:=hid A5;obtain ⟨v6,h6⟩:∃v:Bool,v=true↔∀k,k<S.vr.n→(rsB (N.vrfs.getD k VrfV.zero).imports 65535 && rsB (N.vrfs.getD k VrfV.zero).exports 65535)=true:=⟨@decide _ (Classical.propDecidable _),@decide_eq_true_iff _ (Classical.propDecidable _)⟩
 have A6:=fun (w':World) (hb:Below w.heap.size w w') (nc:Cs w' w.heap.size (vBk S))=>all_vrf 79 #[] enters_right6 S.vr.A S.vr.n S.vr.c N.vrfs w' (vAn h.vr hb) (fun k=>rsB (N.vrfs.getD k VrfV.zero).imports 65535 && rsB (N.vrfs.getD k VrfV.zero).exports 65535) (fun k s t w2 hk hb2 l1 l2=>by
  rw [app20]
  exact right_vrf _ s t _ w2 (vAn l1 hb2) (vAn l2 hb2)) v6 h6
 have A6:=hid A6;obtain ⟨v7,h7⟩:∃v:Bool,v=true↔∀k,k<S.ir.n→(irB N k (N.irbs.getD k IrbV.zero))=true:=⟨@decide _ (Classical.propDecidable _),@decide_eq_true_iff _ (Classical.propDecidable _)⟩
 have A7:=fun (w':World) (hb:Below w.heap.size w w') (nc:Cs w' w.heap.size (vBk S))=>all_irb 82 #[.pointer (some ⟨w.heap.size,0,none⟩)] enters_right7 S.ir.A S.ir.n S.ir.c N.irbs w' (vAn h.ir hb) (fun k=>irB N k (N.irbs.getD k IrbV.zero)) (fun k w2 hk hb2=>by
  rw [app21]
  exact right_irb N S k _ _ w2 ((h.up hb).up hb2) (nc.below hb2)) v7 h7
 have A7:=hid A7
 have HV:=hid (show V=true↔v1=true∧v2=true∧v3=true∧v4=true∧v5=true∧v6=true∧v7=true by
  rw [NI,h1,h2,h3,h4,h5,h6,h7]
  constructor
  · intro g
    refine ⟨fun k hk=>(ptR_iff N k _ (by rw [L_dv];exact p1 k hk)).2 (g.pt k (by omega)),fun k hk=>(lkB_iff N k _).2 (g.lk k (by omega)),fun k hk=>(dmR_iff N k _ rfl (hdm k (by omega))).2 ⟨g.dm.1 k (by omega),g.dm.2 k (by omega)⟩,fun k hk=>(stB_iff N _).2 (g.rs.st k (by omega)),fun k hk=>decide_eq_true (g.rs.fl k (by omega)).most,fun k hk=>?_,fun k hk=>(irB_iff N k _).2 (g.rs.ir k (by omega))⟩
    have:=g.rs.vr k (by omega)
    rw [this.imp,this.exp]
    rfl
  · rintro ⟨g1,g2,g3,g4,g5,g6,g7⟩
    obtain ⟨z1,z2,z3,z4,z5,z6,z7,z8⟩:=HA.out.1 rfl;refine ⟨by omega,by omega,by omega,by omega,by omega,by omega,by omega,by omega,⟨fun i hi=>((dmR_iff N i _ rfl (hdm i hi)).1 (g3 i (by omega))).1,fun i hi=>((dmR_iff N i _ rfl (hdm i hi)).1 (g3 i (by omega))).2⟩,fun i hi=>(ptR_iff N i _ (by rw [L_dv];exact p1 i (by omega))).1 (g1 i (by omega)),fun i hi=>(lkB_iff N i _).1 (g2 i (by omega)),⟨fun i hi=>(stB_iff N _).1 (g4 i (by omega)),fun i hi=>⟨by rw [L_dv];exact p3 i (by omega),of_decide_eq_true (g5 i (by omega))⟩,fun i hi=>?_,fun i hi=>(irB_iff N i _).1 (g7 i (by omega))⟩⟩
    have:=g6 i (by omega)
    rw [Bool.and_eq_true] at this
    exact ⟨by rw [L_dv];exact p4 i (by omega),this.1,this.2⟩)
 clear h NI ha hb_ p1 p2 p3 p4 hdm h1 h2 h3 h4 h5 h6 h7 L_dv L_pt L_lk L_dm L_st L_fl L_vr L_ir HA
 cases v1 with
 |false=>
  have EV:=hid (show V=false by
   cases V with
   |false=>rfl
   |true=>have:=HV.out.1 rfl;simp at this)
  go_wp2_with (first|(go_at_call 62;(with_reducible refine (FW.out _).mono ?_);rintro e wa ⟨rfl,hb⟩;have Y1:=hid (vAa Y0.out hb);obtain ⟨⟨f0,f1,f2,f3,f4,f5,f6,f7⟩,_⟩:=KQ.out _ Y1.out;clear hb)|(go_at_call 63;(with_reducible refine (DV.out _ (KQ.out _ Y1.out).2.2).mono ?_);rintro e wb ⟨rfl,hb⟩;have Y2:=hid (vAa Y1.out hb);obtain ⟨⟨f0,f1,f2,f3,f4,f5,f6,f7⟩,_⟩:=KQ.out _ Y2.out;clear hb)|(go_at_call 64;(with_reducible refine (A1.out _ (KQ.out _ Y2.out).2.2 (KQ.out _ Y2.out).2.1).mono ?_);rintro e w3 ⟨rfl,hb⟩;have Y3:=hid (vAa Y2.out hb);obtain ⟨⟨f0,f1,f2,f3,f4,f5,f6,f7⟩,_⟩:=KQ.out _ Y3.out;clear hb))
  go_ret;exact ⟨by rw [EV.out];rfl,(KQ.out _ Y3.out).2.2⟩
 |true=>
 cases v2 with
 |false=>
  have EV:=hid (show V=false by
   cases V with
   |false=>rfl
   |true=>have:=HV.out.1 rfl;simp at this)
  go_wp2_with (first|(go_at_call 62;(with_reducible refine (FW.out _).mono ?_);rintro e wa ⟨rfl,hb⟩;have Y1:=hid (vAa Y0.out hb);obtain ⟨⟨f0,f1,f2,f3,f4,f5,f6,f7⟩,_⟩:=KQ.out _ Y1.out;clear hb)|(go_at_call 63;(with_reducible refine (DV.out _ (KQ.out _ Y1.out).2.2).mono ?_);rintro e wb ⟨rfl,hb⟩;have Y2:=hid (vAa Y1.out hb);obtain ⟨⟨f0,f1,f2,f3,f4,f5,f6,f7⟩,_⟩:=KQ.out _ Y2.out;clear hb)|(go_at_call 64;(with_reducible refine (A1.out _ (KQ.out _ Y2.out).2.2 (KQ.out _ Y2.out).2.1).mono ?_);rintro e w3 ⟨rfl,hb⟩;have Y3:=hid (vAa Y2.out hb);obtain ⟨⟨f0,f1,f2,f3,f4,f5,f6,f7⟩,_⟩:=KQ.out _ Y3.out;clear hb)|(go_at_call 67;(with_reducible refine (A2.out _ (KQ.out _ Y3.out).2.2 (KQ.out _ Y3.out).2.1).mono ?_);rintro e w4 ⟨rfl,hb⟩;have Y4:=hid (vAa Y3.out hb);obtain ⟨⟨f0,f1,f2,f3,f4,f5,f6,f7⟩,_⟩:=KQ.out _ Y4.out;clear hb))
  go_ret;exact ⟨by rw [EV.out];rfl,(KQ.out _ Y4.out).2.2⟩
 |true=>
 cases v3 with
 |false=>
  have EV:=hid (show V=false by
   cases V with
   |false=>rfl
   |true=>have:=HV.out.1 rfl;simp at this)
  go_wp2_with (first|(go_at_call 62;(with_reducible refine (FW.out _).mono ?_);rintro e wa ⟨rfl,hb⟩;have Y1:=hid (vAa Y0.out hb);obtain ⟨⟨f0,f1,f2,f3,f4,f5,f6,f7⟩,_⟩:=KQ.out _ Y1.out;clear hb)|(go_at_call 63;(with_reducible refine (DV.out _ (KQ.out _ Y1.out).2.2).mono ?_);rintro e wb ⟨rfl,hb⟩;have Y2:=hid (vAa Y1.out hb);obtain ⟨⟨f0,f1,f2,f3,f4,f5,f6,f7⟩,_⟩:=KQ.out _ Y2.out;clear hb)|(go_at_call 64;(with_reducible refine (A1.out _ (KQ.out _ Y2.out).2.2 (KQ.out _ Y2.out).2.1).mono ?_);rintro e w3 ⟨rfl,hb⟩;have Y3:=hid (vAa Y2.out hb);obtain ⟨⟨f0,f1,f2,f3,f4,f5,f6,f7⟩,_⟩:=KQ.out _ Y3.out;clear hb)|(go_at_call 67;(with_reducible refine (A2.out _ (KQ.out _ Y3.out).2.2 (KQ.out _ Y3.out).2.1).mono ?_);rintro e w4 ⟨rfl,hb⟩;have Y4:=hid (vAa Y3.out hb);obtain ⟨⟨f0,f1,f2,f3,f4,f5,f6,f7⟩,_⟩:=KQ.out _ Y4.out;clear hb)|(go_at_call 70;(with_reducible refine (A3.out _ (KQ.out _ Y4.out).2.2 (KQ.out _ Y4.out).2.1).mono ?_);rintro e w5 ⟨rfl,hb⟩;have Y5:=hid (vAa Y4.out hb);obtain ⟨⟨f0,f1,f2,f3,f4,f5,f6,f7⟩,_⟩:=KQ.out _ Y5.out;clear hb))
  go_ret;exact ⟨by rw [EV.out];rfl,(KQ.out _ Y5.out).2.2⟩
 |true=>
 cases v4 with
 |false=>
  have EV:=hid (show V=false by
   cases V with
   |false=>rfl
   |true=>have:=HV.out.1 rfl;simp at this)
  go_wp2_with (first|(go_at_call 62;(with_reducible refine (FW.out _).mono ?_);rintro e wa ⟨rfl,hb⟩;have Y1:=hid (vAa Y0.out hb);obtain ⟨⟨f0,f1,f2,f3,f4,f5,f6,f7⟩,_⟩:=KQ.out _ Y1.out;clear hb)|(go_at_call 63;(with_reducible refine (DV.out _ (KQ.out _ Y1.out).2.2).mono ?_);rintro e wb ⟨rfl,hb⟩;have Y2:=hid (vAa Y1.out hb);obtain ⟨⟨f0,f1,f2,f3,f4,f5,f6,f7⟩,_⟩:=KQ.out _ Y2.out;clear hb)|(go_at_call 64;(with_reducible refine (A1.out _ (KQ.out _ Y2.out).2.2 (KQ.out _ Y2.out).2.1).mono ?_);rintro e w3 ⟨rfl,hb⟩;have Y3:=hid (vAa Y2.out hb);obtain ⟨⟨f0,f1,f2,f3,f4,f5,f6,f7⟩,_⟩:=KQ.out _ Y3.out;clear hb)|(go_at_call 67;(with_reducible refine (A2.out _ (KQ.out _ Y3.out).2.2 (KQ.out _ Y3.out).2.1).mono ?_);rintro e w4 ⟨rfl,hb⟩;have Y4:=hid (vAa Y3.out hb);obtain ⟨⟨f0,f1,f2,f3,f4,f5,f6,f7⟩,_⟩:=KQ.out _ Y4.out;clear hb)|(go_at_call 70;(with_reducible refine (A3.out _ (KQ.out _ Y4.out).2.2 (KQ.out _ Y4.out).2.1).mono ?_);rintro e w5 ⟨rfl,hb⟩;have Y5:=hid (vAa Y4.out hb);obtain ⟨⟨f0,f1,f2,f3,f4,f5,f6,f7⟩,_⟩:=KQ.out _ Y5.out;clear hb)|(go_at_call 73;(with_reducible refine (A4.out _ (KQ.out _ Y5.out).2.2 (KQ.out _ Y5.out).2.1).mono ?_);rintro e w6 ⟨rfl,hb⟩;have Y6:=hid (vAa Y5.out hb);obtain ⟨⟨f0,f1,f2,f3,f4,f5,f6,f7⟩,_⟩:=KQ.out _ Y6.out;clear hb))
  go_ret;exact ⟨by rw [EV.out];rfl,(KQ.out _ Y6.out).2.2⟩
 |true=>
 cases v5 with
 |false=>
  have EV:=hid (show V=false by
   cases V with
   |false=>rfl
   |true=>have:=HV.out.1 rfl;simp at this)
  go_wp2_with (first|(go_at_call 62;(with_reducible refine (FW.out _).mono ?_);rintro e wa ⟨rfl,hb⟩;have Y1:=hid (vAa Y0.out hb);obtain ⟨⟨f0,f1,f2,f3,f4,f5,f6,f7⟩,_⟩:=KQ.out _ Y1.out;clear hb)|(go_at_call 63;(with_reducible refine (DV.out _ (KQ.out _ Y1.out).2.2).mono ?_);rintro e wb ⟨rfl,hb⟩;have Y2:=hid (vAa Y1.out hb);obtain ⟨⟨f0,f1,f2,f3,f4,f5,f6,f7⟩,_⟩:=KQ.out _ Y2.out;clear hb)|(go_at_call 64;(with_reducible refine (A1.out _ (KQ.out _ Y2.out).2.2 (KQ.out _ Y2.out).2.1).mono ?_);rintro e w3 ⟨rfl,hb⟩;have Y3:=hid (vAa Y2.out hb);obtain ⟨⟨f0,f1,f2,f3,f4,f5,f6,f7⟩,_⟩:=KQ.out _ Y3.out;clear hb)|(go_at_call 67;(with_reducible refine (A2.out _ (KQ.out _ Y3.out).2.2 (KQ.out _ Y3.out).2.1).mono ?_);rintro e w4 ⟨rfl,hb⟩;have Y4:=hid (vAa Y3.out hb);obtain ⟨⟨f0,f1,f2,f3,f4,f5,f6,f7⟩,_⟩:=KQ.out _ Y4.out;clear hb)|(go_at_call 70;(with_reducible refine (A3.out _ (KQ.out _ Y4.out).2.2 (KQ.out _ Y4.out).2.1).mono ?_);rintro e w5 ⟨rfl,hb⟩;have Y5:=hid (vAa Y4.out hb);obtain ⟨⟨f0,f1,f2,f3,f4,f5,f6,f7⟩,_⟩:=KQ.out _ Y5.out;clear hb)|(go_at_call 73;(with_reducible refine (A4.out _ (KQ.out _ Y5.out).2.2 (KQ.out _ Y5.out).2.1).mono ?_);rintro e w6 ⟨rfl,hb⟩;have Y6:=hid (vAa Y5.out hb);obtain ⟨⟨f0,f1,f2,f3,f4,f5,f6,f7⟩,_⟩:=KQ.out _ Y6.out;clear hb)|(go_at_call 76;(with_reducible refine (A5.out _ (KQ.out _ Y6.out).2.2 (KQ.out _ Y6.out).2.1).mono ?_);rintro e w7 ⟨rfl,hb⟩;have Y7:=hid (vAa Y6.out hb);obtain ⟨⟨f0,f1,f2,f3,f4,f5,f6,f7⟩,_⟩:=KQ.out _ Y7.out;clear hb))
  go_ret;exact ⟨by rw [EV.out];rfl,(KQ.out _ Y7.out).2.2⟩
 |true=>
 cases v6 with
 |false=>
  have EV:=hid (show V=false by
   cases V with
   |false=>rfl
   |true=>have:=HV.out.1 rfl;simp at this)
  go_wp2_with (first|(go_at_call 62;(with_reducible refine (FW.out _).mono ?_);rintro e wa ⟨rfl,hb⟩;have Y1:=hid (vAa Y0.out hb);obtain ⟨⟨f0,f1,f2,f3,f4,f5,f6,f7⟩,_⟩:=KQ.out _ Y1.out;clear hb)|(go_at_call 63;(with_reducible refine (DV.out _ (KQ.out _ Y1.out).2.2).mono ?_);rintro e wb ⟨rfl,hb⟩;have Y2:=hid (vAa Y1.out hb);obtain ⟨⟨f0,f1,f2,f3,f4,f5,f6,f7⟩,_⟩:=KQ.out _ Y2.out;clear hb)|(go_at_call 64;(with_reducible refine (A1.out _ (KQ.out _ Y2.out).2.2 (KQ.out _ Y2.out).2.1).mono ?_);rintro e w3 ⟨rfl,hb⟩;have Y3:=hid (vAa Y2.out hb);obtain ⟨⟨f0,f1,f2,f3,f4,f5,f6,f7⟩,_⟩:=KQ.out _ Y3.out;clear hb)|(go_at_call 67;(with_reducible refine (A2.out _ (KQ.out _ Y3.out).2.2 (KQ.out _ Y3.out).2.1).mono ?_);rintro e w4 ⟨rfl,hb⟩;have Y4:=hid (vAa Y3.out hb);obtain ⟨⟨f0,f1,f2,f3,f4,f5,f6,f7⟩,_⟩:=KQ.out _ Y4.out;clear hb)|(go_at_call 70;(with_reducible refine (A3.out _ (KQ.out _ Y4.out).2.2 (KQ.out _ Y4.out).2.1).mono ?_);rintro e w5 ⟨rfl,hb⟩;have Y5:=hid (vAa Y4.out hb);obtain ⟨⟨f0,f1,f2,f3,f4,f5,f6,f7⟩,_⟩:=KQ.out _ Y5.out;clear hb)|(go_at_call 73;(with_reducible refine (A4.out _ (KQ.out _ Y5.out).2.2 (KQ.out _ Y5.out).2.1).mono ?_);rintro e w6 ⟨rfl,hb⟩;have Y6:=hid (vAa Y5.out hb);obtain ⟨⟨f0,f1,f2,f3,f4,f5,f6,f7⟩,_⟩:=KQ.out _ Y6.out;clear hb)|(go_at_call 76;(with_reducible refine (A5.out _ (KQ.out _ Y6.out).2.2 (KQ.out _ Y6.out).2.1).mono ?_);rintro e w7 ⟨rfl,hb⟩;have Y7:=hid (vAa Y6.out hb);obtain ⟨⟨f0,f1,f2,f3,f4,f5,f6,f7⟩,_⟩:=KQ.out _ Y7.out;clear hb)|(go_at_call 78;(with_reducible refine (A6.out _ (KQ.out _ Y7.out).2.2 (KQ.out _ Y7.out).2.1).mono ?_);rintro e w8 ⟨rfl,hb⟩;have Y8:=hid (vAa Y7.out hb);obtain ⟨⟨f0,f1,f2,f3,f4,f5,f6,f7⟩,_⟩:=KQ.out _ Y8.out;clear hb))
  go_ret;exact ⟨by rw [EV.out];rfl,(KQ.out _ Y8.out).2.2⟩
 |true=>
 cases v7 with
 |false=>
  have EV:=hid (show V=false by
   cases V with
   |false=>rfl
   |true=>have:=HV.out.1 rfl;simp at this)
  go_wp2_with (first|(go_at_call 62;(with_reducible refine (FW.out _).mono ?_);rintro e wa ⟨rfl,hb⟩;have Y1:=hid (vAa Y0.out hb);obtain ⟨⟨f0,f1,f2,f3,f4,f5,f6,f7⟩,_⟩:=KQ.out _ Y1.out;clear hb)|(go_at_call 63;(with_reducible refine (DV.out _ (KQ.out _ Y1.out).2.2).mono ?_);rintro e wb ⟨rfl,hb⟩;have Y2:=hid (vAa Y1.out hb);obtain ⟨⟨f0,f1,f2,f3,f4,f5,f6,f7⟩,_⟩:=KQ.out _ Y2.out;clear hb)|(go_at_call 64;(with_reducible refine (A1.out _ (KQ.out _ Y2.out).2.2 (KQ.out _ Y2.out).2.1).mono ?_);rintro e w3 ⟨rfl,hb⟩;have Y3:=hid (vAa Y2.out hb);obtain ⟨⟨f0,f1,f2,f3,f4,f5,f6,f7⟩,_⟩:=KQ.out _ Y3.out;clear hb)|(go_at_call 67;(with_reducible refine (A2.out _ (KQ.out _ Y3.out).2.2 (KQ.out _ Y3.out).2.1).mono ?_);rintro e w4 ⟨rfl,hb⟩;have Y4:=hid (vAa Y3.out hb);obtain ⟨⟨f0,f1,f2,f3,f4,f5,f6,f7⟩,_⟩:=KQ.out _ Y4.out;clear hb)|(go_at_call 70;(with_reducible refine (A3.out _ (KQ.out _ Y4.out).2.2 (KQ.out _ Y4.out).2.1).mono ?_);rintro e w5 ⟨rfl,hb⟩;have Y5:=hid (vAa Y4.out hb);obtain ⟨⟨f0,f1,f2,f3,f4,f5,f6,f7⟩,_⟩:=KQ.out _ Y5.out;clear hb)|(go_at_call 73;(with_reducible refine (A4.out _ (KQ.out _ Y5.out).2.2 (KQ.out _ Y5.out).2.1).mono ?_);rintro e w6 ⟨rfl,hb⟩;have Y6:=hid (vAa Y5.out hb);obtain ⟨⟨f0,f1,f2,f3,f4,f5,f6,f7⟩,_⟩:=KQ.out _ Y6.out;clear hb)|(go_at_call 76;(with_reducible refine (A5.out _ (KQ.out _ Y6.out).2.2 (KQ.out _ Y6.out).2.1).mono ?_);rintro e w7 ⟨rfl,hb⟩;have Y7:=hid (vAa Y6.out hb);obtain ⟨⟨f0,f1,f2,f3,f4,f5,f6,f7⟩,_⟩:=KQ.out _ Y7.out;clear hb)|(go_at_call 78;(with_reducible refine (A6.out _ (KQ.out _ Y7.out).2.2 (KQ.out _ Y7.out).2.1).mono ?_);rintro e w8 ⟨rfl,hb⟩;have Y8:=hid (vAa Y7.out hb);obtain ⟨⟨f0,f1,f2,f3,f4,f5,f6,f7⟩,_⟩:=KQ.out _ Y8.out;clear hb)|(go_at_call 81;(with_reducible refine (A7.out _ (KQ.out _ Y8.out).2.2 (KQ.out _ Y8.out).2.1).mono ?_);rintro e w9 ⟨rfl,hb⟩;have Y9:=hid (vAa Y8.out hb);obtain ⟨⟨f0,f1,f2,f3,f4,f5,f6,f7⟩,_⟩:=KQ.out _ Y9.out;clear hb))
  go_ret;exact ⟨by rw [EV.out];rfl,(KQ.out _ Y9.out).2.2⟩
 |true=>
 have EV:=hid (show V=true from HV.out.2 (by simp));go_wp2_with (first|(go_at_call 62;(with_reducible refine (FW.out _).mono ?_);rintro e wa ⟨rfl,hb⟩;have Y1:=hid (vAa Y0.out hb);obtain ⟨⟨f0,f1,f2,f3,f4,f5,f6,f7⟩,_⟩:=KQ.out _ Y1.out;clear hb)|(go_at_call 63;(with_reducible refine (DV.out _ (KQ.out _ Y1.out).2.2).mono ?_);rintro e wb ⟨rfl,hb⟩;have Y2:=hid (vAa Y1.out hb);obtain ⟨⟨f0,f1,f2,f3,f4,f5,f6,f7⟩,_⟩:=KQ.out _ Y2.out;clear hb)|(go_at_call 64;(with_reducible refine (A1.out _ (KQ.out _ Y2.out).2.2 (KQ.out _ Y2.out).2.1).mono ?_);rintro e w3 ⟨rfl,hb⟩;have Y3:=hid (vAa Y2.out hb);obtain ⟨⟨f0,f1,f2,f3,f4,f5,f6,f7⟩,_⟩:=KQ.out _ Y3.out;clear hb)|(go_at_call 67;(with_reducible refine (A2.out _ (KQ.out _ Y3.out).2.2 (KQ.out _ Y3.out).2.1).mono ?_);rintro e w4 ⟨rfl,hb⟩;have Y4:=hid (vAa Y3.out hb);obtain ⟨⟨f0,f1,f2,f3,f4,f5,f6,f7⟩,_⟩:=KQ.out _ Y4.out;clear hb)|(go_at_call 70;(with_reducible refine (A3.out _ (KQ.out _ Y4.out).2.2 (KQ.out _ Y4.out).2.1).mono ?_);rintro e w5 ⟨rfl,hb⟩;have Y5:=hid (vAa Y4.out hb);obtain ⟨⟨f0,f1,f2,f3,f4,f5,f6,f7⟩,_⟩:=KQ.out _ Y5.out;clear hb)|(go_at_call 73;(with_reducible refine (A4.out _ (KQ.out _ Y5.out).2.2 (KQ.out _ Y5.out).2.1).mono ?_);rintro e w6 ⟨rfl,hb⟩;have Y6:=hid (vAa Y5.out hb);obtain ⟨⟨f0,f1,f2,f3,f4,f5,f6,f7⟩,_⟩:=KQ.out _ Y6.out;clear hb)|(go_at_call 76;(with_reducible refine (A5.out _ (KQ.out _ Y6.out).2.2 (KQ.out _ Y6.out).2.1).mono ?_);rintro e w7 ⟨rfl,hb⟩;have Y7:=hid (vAa Y6.out hb);obtain ⟨⟨f0,f1,f2,f3,f4,f5,f6,f7⟩,_⟩:=KQ.out _ Y7.out;clear hb)|(go_at_call 78;(with_reducible refine (A6.out _ (KQ.out _ Y7.out).2.2 (KQ.out _ Y7.out).2.1).mono ?_);rintro e w8 ⟨rfl,hb⟩;have Y8:=hid (vAa Y7.out hb);obtain ⟨⟨f0,f1,f2,f3,f4,f5,f6,f7⟩,_⟩:=KQ.out _ Y8.out;clear hb)|(go_at_call 81;(with_reducible refine (A7.out _ (KQ.out _ Y8.out).2.2 (KQ.out _ Y8.out).2.1).mono ?_);rintro e w9 ⟨rfl,hb⟩;have Y9:=hid (vAa Y8.out hb);obtain ⟨⟨f0,f1,f2,f3,f4,f5,f6,f7⟩,_⟩:=KQ.out _ Y9.out;clear hb))
 go_ret;exact ⟨by rw [EV.out];rfl,(KQ.out _ Y9.out).2.2⟩
end Go.Proofs.YtgmflecelnefcaaGreat
