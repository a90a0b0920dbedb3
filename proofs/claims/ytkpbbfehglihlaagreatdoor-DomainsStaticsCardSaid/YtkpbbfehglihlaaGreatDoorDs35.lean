import Derived.Test.YtkpbbfehglihlaaGreatDoorDs31
import Derived.Test.YtkpbbfehglihlaaGreatDoorDs04
set_option maxRecDepth 100000
set_option maxHeartbeats 40000000
namespace Go.Proofs.YtkpbbfehglihlaaGreatDoor
open Go.Lib (hid)
open Go.RowKit
theorem Cs.set {w:World} {q:Nat} {l:List Value} (h:Cs w q l) (j:Nat) (v:Value) (hj:j<l.length):Cs (w.setCell ⟨q,j,none⟩ v) q (l.set j v):=by
 refine ⟨fun i x hx=>?_,by simpa using h.2⟩
 by_cases e:i=j
 · subst e
   rw [List.getElem?_set_self hj] at hx
   cases hx
   exact World.cell?_setCell_same _ _ _ (h.1 i _ (List.getElem?_eq_getElem hj))
 · rw [List.getElem?_set_ne (fun g=>e g.symm)] at hx
   rw [World.cell?_setCell_other _ _ _ _ (by intro g;injection g with _ g2;first|exact e g2|exact e g2.symm)];exact h.1 i x hx
theorem Cs.far {w:World} {q p j:Nat} {l:List Value} (h:Cs w q l) (hp:p≠q) (v:Value):Cs (w.setCell ⟨p,j,none⟩ v) q l:=
 ⟨fun i x hx=>by rw [World.cell?_setCell_other _ _ _ _ (by intro g;injection g with g1;first|exact hp g1|exact hp g1.symm)];exact h.1 i x hx,by simpa using h.2⟩
theorem res_dev (tmps:Array Value) (W:World) (X:DevV) (q:Nat) (h2:tmps[2]?.getD undef=.pointer (some ⟨q,0,none⟩)) (hb:Cs W q [.int .i64 X.row,.int .i64 X.prio,.string (str X.name),.int .u64 X.mac,.int .u32 X.vtep]):
 (results Tryz.f95 tmps).run Tryz.prog W=.ok (.agg #[.int .i64 X.row,.int .i64 X.prio,.string (str X.name),.int .u64 X.mac,.int .u32 X.vtep]) W:=by
 have t0:=hb.1 0 _ rfl;have t1:=hb.1 1 _ rfl;have t2:=hb.1 2 _ rfl;have t3:=hb.1 3 _ rfl;have t4:=hb.1 4 _ rfl;clear hb;simp [results,Tryz.results95,go_sem,h2,t0,t1,t2,t3,t4]
def Got_dev (X:DevV) (w:World) (e:Ending) (w':World):Prop:=e=.returned (.agg #[.int .i64 X.row,.int .i64 X.prio,.string (str X.name),.int .u64 X.mac,.int .u32 X.vtep])∧Below w.heap.size w w'
theorem copy_dev (X:DevV) (w:World) (hs:X.name.length≤140737488351232):Calls Tryz.prog 95 #[.agg #[.int .i64 X.row,.int .i64 X.prio,.string (str X.name),.int .u64 X.mac,.int .u32 X.vtep]] w (Got_dev X w):=by
 have TC:=hid (fun w'=>tclone2 X.name w' hs);clear hs;unfold Got_dev
 go_enter Tryz.func95,Tryz.ntmps95
 go_upto_region 1 with fail
 obtain ⟨W,hW⟩:∃W,(w.alloc (.cells #[.int .i64 X.row,.int .i64 X.prio,.string (str X.name),.int .u64 X.mac,.int .u32 X.vtep] 61)).alloc (.cells #[.int .i64 0,.int .i64 0,.string ⟨#[]⟩,.int .u64 0,.int .u32 0] 61)=W:=⟨_,rfl⟩;have FA:=hid (show ∀o,W.frozen? ⟨w.heap.size,o,none⟩=false∧W.frozen? ⟨w.heap.size+1,o,none⟩=false from fun o=>by rw [←hW];exact ⟨by simp [go_sem],by simp [go_sem]⟩)
 have CA:=hid (show Cs W w.heap.size [.int .i64 X.row,.int .i64 X.prio,.string (str X.name),.int .u64 X.mac,.int .u32 X.vtep]∧Cs W (w.heap.size+1) [.int .i64 0,.int .i64 0,.string ⟨#[]⟩,.int .u64 0,.int .u32 0]∧Below w.heap.size w W from by
  have h1:=Cs.new w [.int .i64 X.row,.int .i64 X.prio,.string (str X.name),.int .u64 X.mac,.int .u32 X.vtep] 61;have h2:=Cs.new (w.alloc (.cells #[.int .i64 X.row,.int .i64 X.prio,.string (str X.name),.int .u64 X.mac,.int .u32 X.vtep] 61)) [.int .i64 0,.int .i64 0,.string ⟨#[]⟩,.int .u64 0,.int .u32 0] 61;rw [show (w.alloc (.cells #[.int .i64 X.row,.int .i64 X.prio,.string (str X.name),.int .u64 X.mac,.int .u32 X.vtep] 61)).heap.size=w.heap.size+1 by simp] at h2
  rw [←hW]
  exact ⟨h1.below (vAc _ _),h2,vBf w _ _⟩)
 rw [hW];clear hW;have KF:=hid (show ∀wx,Below W.heap.size W wx→∀o,wx.frozen? ⟨w.heap.size,o,none⟩=false∧wx.frozen? ⟨w.heap.size+1,o,none⟩=false from fun wx hx o=>⟨(World.frozen?_of_block (w:=W) (a:=⟨w.heap.size,o,none⟩) (hx.block _ CA.out.1.2)).trans (FA.out o).1,(World.frozen?_of_block (w:=W) (a:=⟨w.heap.size+1,o,none⟩) (hx.block _ CA.out.2.1.2)).trans (FA.out o).2⟩);have ql:w.heap.size<W.heap.size:=CA.out.1.2
 have ql2:w.heap.size+1<W.heap.size:=CA.out.2.1.2
 go_cut [] (fun wx=>Cs wx w.heap.size [.int .i64 X.row,.int .i64 X.prio,.string (str X.name),.int .u64 X.mac,.int .u32 X.vtep]∧Cs wx (w.heap.size+1) [.int .i64 0,.int .i64 0,.string ⟨#[]⟩,.int .u64 0,.int .u32 0]∧Below w.heap.size w wx∧W.heap.size≤wx.heap.size∧∀o,wx.frozen? ⟨w.heap.size+1,o,none⟩=false)
 case first=>
  have k2:=CA.out.1.1 2 _ rfl;go_wp2_with (go_at_call 161;(with_reducible refine (TC.out _).mono ?_);rintro e w1 ⟨rfl,hb⟩;have Y:=hid hb;have cs1:=CA.out.1.below hb;have q3:=cs1.2;have k2:=cs1.1 2 _ rfl;have z2:=(KF.out _ hb 2).1;clear hb)
  go_meet
  have D:=(CA.out.1.below Y.out).set 2 (.string (str X.name)) (by simp);exact ⟨D,(CA.out.2.1.below Y.out).far (by omega) _,(CA.out.2.2.trans (Y.out.mono CA.out.2.2.size)).setCell (Nat.le_refl _) _,by have:=Y.out.size;simpa using this,fun o=>by simp only [World.frozen?_setCell];exact (KF.out _ Y.out o).2⟩
 case rest=>
 obtain ⟨h1,h2,hb,hz,fz⟩:=hcut;rename World=>w5;have c0:=h1.1 0 _ rfl;have e0_:=h2.1 0 _ rfl;have c1:=h1.1 1 _ rfl;have e1_:=h2.1 1 _ rfl;have c2:=h1.1 2 _ rfl;have e2_:=h2.1 2 _ rfl;have c3:=h1.1 3 _ rfl;have e3_:=h2.1 3 _ rfl;have c4:=h1.1 4 _ rfl;have e4_:=h2.1 4 _ rfl;have q1:=h1.2;have q2:=h2.2;have z0:=fz 0;have z1:=fz 1;have z2:=fz 2;have z3:=fz 3;have z4:=fz 4;have CF:=hid (((((h2.set 0 (.int .i64 X.row) (by simp)).set 1 (.int .i64 X.prio) (by simp)).set 2 (.string (str X.name)) (by simp)).set 3 (.int .u64 X.mac) (by simp)).set 4 (.int .u32 X.vtep) (by simp))
 have BF:=hid (((((hb.setCell (p:=⟨w.heap.size+1,0,none⟩) (by simp) (.int .i64 X.row)).setCell (p:=⟨w.heap.size+1,1,none⟩) (by simp) (.int .i64 X.prio)).setCell (p:=⟨w.heap.size+1,2,none⟩) (by simp) (.string (str X.name))).setCell (p:=⟨w.heap.size+1,3,none⟩) (by simp) (.int .u64 X.mac)).setCell (p:=⟨w.heap.size+1,4,none⟩) (by simp) (.int .u32 X.vtep));have hh:=hid (show ∀b,W.heap.size≤b→(((((w5.setCell ⟨w.heap.size+1,0,none⟩ (.int .i64 X.row)).setCell ⟨w.heap.size+1,1,none⟩ (.int .i64 X.prio)).setCell ⟨w.heap.size+1,2,none⟩ (.string (str X.name))).setCell ⟨w.heap.size+1,3,none⟩ (.int .u64 X.mac)).setCell ⟨w.heap.size+1,4,none⟩ (.int .u32 X.vtep)).heap[b]?=w5.heap[b]? from fun b hb=>by rw [Below.heap_setCell _ _ _ _ (by intro e;simp at e;omega),Below.heap_setCell _ _ _ _ (by intro e;simp at e;omega),Below.heap_setCell _ _ _ _ (by intro e;simp at e;omega),Below.heap_setCell _ _ _ _ (by intro e;simp at e;omega),Below.heap_setCell _ _ _ _ (by intro e;simp at e;omega)])
 clear h1 h2 hb fz hz;go_wp2;refine bodyPost_ret (res_dev _ _ X (w.heap.size+1) rfl CF.out) rfl ?_;exact ⟨rfl,BF.out⟩
theorem res_dom (tmps:Array Value) (W:World) (X:DomV) (u1:Sl3) (q:Nat) (h2:tmps[2]?.getD undef=.pointer (some ⟨q,0,none⟩)) (hb:Cs W q [.int .i64 X.dev,.int .i64 X.vlan,.int .i64 X.vni,.int .i64 X.irb,.int .i64 X.row,.slice u1.A u1.n u1.c]):
 (results Tryz.f100 tmps).run Tryz.prog W=.ok (.agg #[.int .i64 X.dev,.int .i64 X.vlan,.int .i64 X.vni,.int .i64 X.irb,.int .i64 X.row,.slice u1.A u1.n u1.c]) W:=by
 have t0:=hb.1 0 _ rfl;have t1:=hb.1 1 _ rfl;have t2:=hb.1 2 _ rfl;have t3:=hb.1 3 _ rfl;have t4:=hb.1 4 _ rfl;have t5:=hb.1 5 _ rfl;clear hb;simp [results,Tryz.results100,go_sem,h2,t0,t1,t2,t3,t4,t5]
def Got_dom (X:DomV) (w:World) (e:Ending) (w':World):Prop:=∃u1:Sl3,e=.returned (.agg #[.int .i64 X.dev,.int .i64 X.vlan,.int .i64 X.vni,.int .i64 X.irb,.int .i64 X.row,.slice u1.A u1.n u1.c])∧RSl (Rdr.int .i64) w' (NFB w.heap.size w') u1.A u1.n u1.c X.peers∧Below w.heap.size w w'
theorem copy_dom (X:DomV) (s:Sl3) (w:World) (l1:RSl (Rdr.int .i64) w (vAs w) s.A s.n s.c X.peers) (z1:X.peers.length≤100):Calls Tryz.prog 100 #[.agg #[.int .i64 X.dev,.int .i64 X.vlan,.int .i64 X.vni,.int .i64 X.irb,.int .i64 X.row,.slice s.A s.n s.c]] w (Got_dom X w):=by
 have CL1:=hid (fun (w':World) (hb:Below w.heap.size w w')=>cl_int s X.peers w' (vAn l1 hb) (by omega));clear l1 z1;unfold Got_dom
 go_enter Tryz.func100,Tryz.ntmps100
 go_upto_region 1 with fail
 obtain ⟨W,hW⟩:∃W,(w.alloc (.cells #[.int .i64 X.dev,.int .i64 X.vlan,.int .i64 X.vni,.int .i64 X.irb,.int .i64 X.row,.slice s.A s.n s.c] 63)).alloc (.cells #[.int .i64 0,.int .i64 0,.int .i64 0,.int .i64 0,.int .i64 0,.slice none 0 0] 63)=W:=⟨_,rfl⟩;have FA:=hid (show ∀o,W.frozen? ⟨w.heap.size,o,none⟩=false∧W.frozen? ⟨w.heap.size+1,o,none⟩=false from fun o=>by rw [←hW];exact ⟨by simp [go_sem],by simp [go_sem]⟩)
 have CA:=hid (show Cs W w.heap.size [.int .i64 X.dev,.int .i64 X.vlan,.int .i64 X.vni,.int .i64 X.irb,.int .i64 X.row,.slice s.A s.n s.c]∧Cs W (w.heap.size+1) [.int .i64 0,.int .i64 0,.int .i64 0,.int .i64 0,.int .i64 0,.slice none 0 0]∧Below w.heap.size w W from by
  have h1:=Cs.new w [.int .i64 X.dev,.int .i64 X.vlan,.int .i64 X.vni,.int .i64 X.irb,.int .i64 X.row,.slice s.A s.n s.c] 63;have h2:=Cs.new (w.alloc (.cells #[.int .i64 X.dev,.int .i64 X.vlan,.int .i64 X.vni,.int .i64 X.irb,.int .i64 X.row,.slice s.A s.n s.c] 63)) [.int .i64 0,.int .i64 0,.int .i64 0,.int .i64 0,.int .i64 0,.slice none 0 0] 63;rw [show (w.alloc (.cells #[.int .i64 X.dev,.int .i64 X.vlan,.int .i64 X.vni,.int .i64 X.irb,.int .i64 X.row,.slice s.A s.n s.c] 63)).heap.size=w.heap.size+1 by simp] at h2
  rw [←hW]
  exact ⟨h1.below (vAc _ _),h2,vBf w _ _⟩)
 rw [hW];clear hW;have KF:=hid (show ∀wx,Below W.heap.size W wx→∀o,wx.frozen? ⟨w.heap.size,o,none⟩=false∧wx.frozen? ⟨w.heap.size+1,o,none⟩=false from fun wx hx o=>⟨(World.frozen?_of_block (w:=W) (a:=⟨w.heap.size,o,none⟩) (hx.block _ CA.out.1.2)).trans (FA.out o).1,(World.frozen?_of_block (w:=W) (a:=⟨w.heap.size+1,o,none⟩) (hx.block _ CA.out.2.1.2)).trans (FA.out o).2⟩);have ql:w.heap.size<W.heap.size:=CA.out.1.2
 have ql2:w.heap.size+1<W.heap.size:=CA.out.2.1.2
 go_cut [] (fun wx=>∃u1:Sl3,Cs wx w.heap.size [.int .i64 X.dev,.int .i64 X.vlan,.int .i64 X.vni,.int .i64 X.irb,.int .i64 X.row,.slice u1.A u1.n u1.c]∧Cs wx (w.heap.size+1) [.int .i64 0,.int .i64 0,.int .i64 0,.int .i64 0,.int .i64 0,.slice none 0 0]∧RSl (Rdr.int .i64) wx (NFB W.heap.size wx) u1.A u1.n u1.c X.peers∧Below w.heap.size w wx∧W.heap.size≤wx.heap.size∧∀o,wx.frozen? ⟨w.heap.size+1,o,none⟩=false)
 case first=>
  have k5:=CA.out.1.1 5 _ rfl;go_wp2_with (go_at_call 162;(with_reducible refine (CL1.out _ CA.out.2.2).mono ?_);rintro e w1 ⟨u,rfl,hr,hb⟩;have Y:=hid hb;have R:=hid hr;have cs1:=CA.out.1.below hb;have q3:=cs1.2;have k5:=cs1.1 5 _ rfl;have z5:=(KF.out _ hb 5).1;clear hb hr)
  go_meet
  have D:=(CA.out.1.below Y.out).set 5 (.slice u.A u.n u.c) (by simp);refine ⟨u,D,(CA.out.2.1.below Y.out).far (by omega) _,R.out.keep (F':=NFB W.heap.size _) (fun b hb=>?_) (fun b hb=>?_),(CA.out.2.2.trans (Y.out.mono CA.out.2.2.size)).setCell (Nat.le_refl _) _,by have:=Y.out.size;simpa using this,fun o=>by simp only [World.frozen?_setCell];exact (KF.out _ Y.out o).2⟩
  · exact Below.heap_setCell _ _ _ _ (by have:=hb.1;intro e;simp at e;omega)
  · exact hb.same (Below.heap_setCell _ _ _ _ (by have:=hb.1;intro e;simp at e;omega))
 case rest=>
 obtain ⟨u1,h1,h2,r1,hb,hz,fz⟩:=hcut;rename World=>w5;have c0:=h1.1 0 _ rfl;have e0_:=h2.1 0 _ rfl;have c1:=h1.1 1 _ rfl;have e1_:=h2.1 1 _ rfl;have c2:=h1.1 2 _ rfl;have e2_:=h2.1 2 _ rfl;have c3:=h1.1 3 _ rfl;have e3_:=h2.1 3 _ rfl;have c4:=h1.1 4 _ rfl;have e4_:=h2.1 4 _ rfl;have c5:=h1.1 5 _ rfl;have e5_:=h2.1 5 _ rfl;have q1:=h1.2;have q2:=h2.2;have z0:=fz 0;have z1:=fz 1;have z2:=fz 2;have z3:=fz 3
 have z4:=fz 4;have z5:=fz 5;have CF:=hid ((((((h2.set 0 (.int .i64 X.dev) (by simp)).set 1 (.int .i64 X.vlan) (by simp)).set 2 (.int .i64 X.vni) (by simp)).set 3 (.int .i64 X.irb) (by simp)).set 4 (.int .i64 X.row) (by simp)).set 5 (.slice u1.A u1.n u1.c) (by simp));have BF:=hid ((((((hb.setCell (p:=⟨w.heap.size+1,0,none⟩) (by simp) (.int .i64 X.dev)).setCell (p:=⟨w.heap.size+1,1,none⟩) (by simp) (.int .i64 X.vlan)).setCell (p:=⟨w.heap.size+1,2,none⟩) (by simp) (.int .i64 X.vni)).setCell (p:=⟨w.heap.size+1,3,none⟩) (by simp) (.int .i64 X.irb)).setCell (p:=⟨w.heap.size+1,4,none⟩) (by simp) (.int .i64 X.row)).setCell (p:=⟨w.heap.size+1,5,none⟩) (by simp) (.slice u1.A u1.n u1.c))
 have hh:=hid (show ∀b,W.heap.size≤b→((((((w5.setCell ⟨w.heap.size+1,0,none⟩ (.int .i64 X.dev)).setCell ⟨w.heap.size+1,1,none⟩ (.int .i64 X.vlan)).setCell ⟨w.heap.size+1,2,none⟩ (.int .i64 X.vni)).setCell ⟨w.heap.size+1,3,none⟩ (.int .i64 X.irb)).setCell ⟨w.heap.size+1,4,none⟩ (.int .i64 X.row)).setCell ⟨w.heap.size+1,5,none⟩ (.slice u1.A u1.n u1.c)).heap[b]?=w5.heap[b]? from fun b hb=>by rw [Below.heap_setCell _ _ _ _ (by intro e;simp at e;omega),Below.heap_setCell _ _ _ _ (by intro e;simp at e;omega),Below.heap_setCell _ _ _ _ (by intro e;simp at e;omega),Below.heap_setCell _ _ _ _ (by intro e;simp at e;omega),Below.heap_setCell _ _ _ _ (by intro e;simp at e;omega),Below.heap_setCell _ _ _ _ (by intro e;simp at e;omega)])
 have HR1:=hid r1;clear h1 h2 hb fz hz r1;go_wp2;refine bodyPost_ret (res_dom _ _ X u1 (w.heap.size+1) rfl CF.out) rfl ?_;exact ⟨u1,rfl,HR1.out.keep (F':=NFB w.heap.size _) (fun b hb=>hh.out b hb.1) (fun b hb=>(hb.low (by omega)).same (hh.out b hb.1)),BF.out⟩
theorem res_flood (tmps:Array Value) (W:World) (X:FloodV) (u1:Sl3) (q:Nat) (h2:tmps[2]?.getD undef=.pointer (some ⟨q,0,none⟩)) (hb:Cs W q [.int .i64 X.row,.int .i64 X.dev,.int .i64 X.vni,.slice u1.A u1.n u1.c]):
 (results Tryz.f103 tmps).run Tryz.prog W=.ok (.agg #[.int .i64 X.row,.int .i64 X.dev,.int .i64 X.vni,.slice u1.A u1.n u1.c]) W:=by
 have t0:=hb.1 0 _ rfl;have t1:=hb.1 1 _ rfl;have t2:=hb.1 2 _ rfl;have t3:=hb.1 3 _ rfl;clear hb;simp [results,Tryz.results103,go_sem,h2,t0,t1,t2,t3]
def Got_flood (X:FloodV) (w:World) (e:Ending) (w':World):Prop:=∃u1:Sl3,e=.returned (.agg #[.int .i64 X.row,.int .i64 X.dev,.int .i64 X.vni,.slice u1.A u1.n u1.c])∧RSl (Rdr.int .u32) w' (NFB w.heap.size w') u1.A u1.n u1.c X.addrs∧Below w.heap.size w w'
theorem copy_flood (X:FloodV) (s:Sl3) (w:World) (l1:RSl (Rdr.int .u32) w (vAs w) s.A s.n s.c X.addrs) (z1:X.addrs.length≤100):Calls Tryz.prog 103 #[.agg #[.int .i64 X.row,.int .i64 X.dev,.int .i64 X.vni,.slice s.A s.n s.c]] w (Got_flood X w):=by
 have CL1:=hid (fun (w':World) (hb:Below w.heap.size w w')=>cl_uint32 s X.addrs w' (vAn l1 hb) (by omega));clear l1 z1;unfold Got_flood
 go_enter Tryz.func103,Tryz.ntmps103
 go_upto_region 1 with fail
 obtain ⟨W,hW⟩:∃W,(w.alloc (.cells #[.int .i64 X.row,.int .i64 X.dev,.int .i64 X.vni,.slice s.A s.n s.c] 71)).alloc (.cells #[.int .i64 0,.int .i64 0,.int .i64 0,.slice none 0 0] 71)=W:=⟨_,rfl⟩;have FA:=hid (show ∀o,W.frozen? ⟨w.heap.size,o,none⟩=false∧W.frozen? ⟨w.heap.size+1,o,none⟩=false from fun o=>by rw [←hW];exact ⟨by simp [go_sem],by simp [go_sem]⟩)
 have CA:=hid (show Cs W w.heap.size [.int .i64 X.row,.int .i64 X.dev,.int .i64 X.vni,.slice s.A s.n s.c]∧Cs W (w.heap.size+1) [.int .i64 0,.int .i64 0,.int .i64 0,.slice none 0 0]∧Below w.heap.size w W from by
  have h1:=Cs.new w [.int .i64 X.row,.int .i64 X.dev,.int .i64 X.vni,.slice s.A s.n s.c] 71;have h2:=Cs.new (w.alloc (.cells #[.int .i64 X.row,.int .i64 X.dev,.int .i64 X.vni,.slice s.A s.n s.c] 71)) [.int .i64 0,.int .i64 0,.int .i64 0,.slice none 0 0] 71;rw [show (w.alloc (.cells #[.int .i64 X.row,.int .i64 X.dev,.int .i64 X.vni,.slice s.A s.n s.c] 71)).heap.size=w.heap.size+1 by simp] at h2;rw [←hW]
  exact ⟨h1.below (vAc _ _),h2,vBf w _ _⟩)
 rw [hW];clear hW;have KF:=hid (show ∀wx,Below W.heap.size W wx→∀o,wx.frozen? ⟨w.heap.size,o,none⟩=false∧wx.frozen? ⟨w.heap.size+1,o,none⟩=false from fun wx hx o=>⟨(World.frozen?_of_block (w:=W) (a:=⟨w.heap.size,o,none⟩) (hx.block _ CA.out.1.2)).trans (FA.out o).1,(World.frozen?_of_block (w:=W) (a:=⟨w.heap.size+1,o,none⟩) (hx.block _ CA.out.2.1.2)).trans (FA.out o).2⟩);have ql:w.heap.size<W.heap.size:=CA.out.1.2
 have ql2:w.heap.size+1<W.heap.size:=CA.out.2.1.2
 go_cut [] (fun wx=>∃u1:Sl3,Cs wx w.heap.size [.int .i64 X.row,.int .i64 X.dev,.int .i64 X.vni,.slice u1.A u1.n u1.c]∧Cs wx (w.heap.size+1) [.int .i64 0,.int .i64 0,.int .i64 0,.slice none 0 0]∧RSl (Rdr.int .u32) wx (NFB W.heap.size wx) u1.A u1.n u1.c X.addrs∧Below w.heap.size w wx∧W.heap.size≤wx.heap.size∧∀o,wx.frozen? ⟨w.heap.size+1,o,none⟩=false)
 case first=>
  have k3:=CA.out.1.1 3 _ rfl;go_wp2_with (go_at_call 163;(with_reducible refine (CL1.out _ CA.out.2.2).mono ?_);rintro e w1 ⟨u,rfl,hr,hb⟩;have Y:=hid hb;have R:=hid hr;have cs1:=CA.out.1.below hb;have q3:=cs1.2;have k3:=cs1.1 3 _ rfl;have z3:=(KF.out _ hb 3).1;clear hb hr)
  go_meet
  have D:=(CA.out.1.below Y.out).set 3 (.slice u.A u.n u.c) (by simp);refine ⟨u,D,(CA.out.2.1.below Y.out).far (by omega) _,R.out.keep (F':=NFB W.heap.size _) (fun b hb=>?_) (fun b hb=>?_),(CA.out.2.2.trans (Y.out.mono CA.out.2.2.size)).setCell (Nat.le_refl _) _,by have:=Y.out.size;simpa using this,fun o=>by simp only [World.frozen?_setCell];exact (KF.out _ Y.out o).2⟩
  · exact Below.heap_setCell _ _ _ _ (by have:=hb.1;intro e;simp at e;omega)
  · exact hb.same (Below.heap_setCell _ _ _ _ (by have:=hb.1;intro e;simp at e;omega))
 case rest=>
 obtain ⟨u1,h1,h2,r1,hb,hz,fz⟩:=hcut;rename World=>w5;have c0:=h1.1 0 _ rfl;have e0_:=h2.1 0 _ rfl;have c1:=h1.1 1 _ rfl;have e1_:=h2.1 1 _ rfl;have c2:=h1.1 2 _ rfl;have e2_:=h2.1 2 _ rfl;have c3:=h1.1 3 _ rfl;have e3_:=h2.1 3 _ rfl;have q1:=h1.2;have q2:=h2.2;have z0:=fz 0;have z1:=fz 1;have z2:=fz 2;have z3:=fz 3;have CF:=hid ((((h2.set 0 (.int .i64 X.row) (by simp)).set 1 (.int .i64 X.dev) (by simp)).set 2 (.int .i64 X.vni) (by simp)).set 3 (.slice u1.A u1.n u1.c) (by simp))
 have BF:=hid ((((hb.setCell (p:=⟨w.heap.size+1,0,none⟩) (by simp) (.int .i64 X.row)).setCell (p:=⟨w.heap.size+1,1,none⟩) (by simp) (.int .i64 X.dev)).setCell (p:=⟨w.heap.size+1,2,none⟩) (by simp) (.int .i64 X.vni)).setCell (p:=⟨w.heap.size+1,3,none⟩) (by simp) (.slice u1.A u1.n u1.c));have hh:=hid (show ∀b,W.heap.size≤b→((((w5.setCell ⟨w.heap.size+1,0,none⟩ (.int .i64 X.row)).setCell ⟨w.heap.size+1,1,none⟩ (.int .i64 X.dev)).setCell ⟨w.heap.size+1,2,none⟩ (.int .i64 X.vni)).setCell ⟨w.heap.size+1,3,none⟩ (.slice u1.A u1.n u1.c)).heap[b]?=w5.heap[b]? from fun b hb=>by rw [Below.heap_setCell _ _ _ _ (by intro e;simp at e;omega),Below.heap_setCell _ _ _ _ (by intro e;simp at e;omega),Below.heap_setCell _ _ _ _ (by intro e;simp at e;omega),Below.heap_setCell _ _ _ _ (by intro e;simp at e;omega)])
 have HR1:=hid r1;clear h1 h2 hb fz hz r1;go_wp2;refine bodyPost_ret (res_flood _ _ X u1 (w.heap.size+1) rfl CF.out) rfl ?_;exact ⟨u1,rfl,HR1.out.keep (F':=NFB w.heap.size _) (fun b hb=>hh.out b hb.1) (fun b hb=>(hb.low (by omega)).same (hh.out b hb.1)),BF.out⟩
open Go
section
variable {P:Program} {ops:Array Oper} {Q:Exit→Act→World→Prop}
def leftI (d:Nat→Bool):Nat→Nat
 |0=>0
 |n+1=>leftI d n+if d n then 0 else 1
theorem leftI_set (d:Nat→Bool) (j:Nat) (hj:d j=false):∀n,leftI (fun i=>i == j || d i) n+(if j<n then 1 else 0)=leftI d n
 |0=>by simp [leftI]
 |n+1=>by
  have ih:=leftI_set d j hj n
  change leftI (fun i=>i == j || d i) n+(if (n == j || d n)=true then 0 else 1)+(if j<n+1 then 1 else 0)=leftI d n+(if d n=true then 0 else 1)
  by_cases h:n=j
  · subst h
    rw [if_neg (Nat.lt_irrefl n)] at ih;rw [hj,if_pos (by simp),if_pos (Nat.lt_succ_self n),if_neg (by simp)];omega
  · have e:(n == j)=false:=by simpa using h
    rw [e,Bool.false_or]
    by_cases h2:j<n
    · rw [if_pos h2] at ih
      rw [if_pos (show j<n+1 by omega)];omega
    · rw [if_neg h2] at ih
      rw [if_neg (show ¬j<n+1 by omega)];omega
theorem leftI_zero (d:Nat→Bool):∀n,leftI d n=0→∀j,j<n→d j=true
 |0,_,j,hj=>absurd hj (by omega)
 |n+1,h,j,hj=>by
  unfold leftI at h
  by_cases e:j=n
  · subst e
    cases hd:d j with
    |true=>rfl
    |false=>rw [hd] at h;simp at h
  · exact leftI_zero d n (by omega) j (by omega)
def RunI (P:Program) (K:Value→World→Prop):Result Next→Prop
 | .ok (.value u) w'=>K u w'
 | .ok .skip w'=>K undef w'
 | .ok (.enter f args) w'=>Calls P f args w' fun e w''=>∃v,e=.returned v∧K v w''
 |_=>False
def StepI (P:Program) (ops:Array Oper) (o:Oper) (a:Act) (w:World) (K:Value→World→Prop):Prop:=
 (Region.wanted o (yielded ops a.tmps)=true∧RunI P K ((execOp a.eval o).run P w))∨(Region.wanted o (yielded ops a.tmps)=false∧K undef w)
theorem StepI.wpOp {i:Nat} {o:Oper} {a:Act} (hi:ops[i]?=some o) {w:World} {K:Act→World→Prop} (h:StepI P ops o a w (fun v w'=>K (a.put o.dst v) w')):wpOp P ops Q i K a w:=by
 unfold Go.wpOp;simp only [hi]
 rcases h with ⟨hw,hr⟩|⟨hw,hr⟩
 · simp only [hw,if_true]
   left
   unfold Oper.wp;generalize (execOp a.eval o).run P w=r at hr ⊢
   cases r with
   |ok n w'=>
    cases n with
    |value u=>exact hr
    |skip=>exact hr
    |enter f args=>exact Calls.mono (show Calls P f args w' _ from hr) fun e w'' ⟨v,he,hs⟩=>by subst he;exact hs
    |_=>exact (show False from hr).elim
   |halt x w'=>exact (show False from hr).elim
 · simp only [hw,Bool.false_eq_true,if_false]
   exact hr
theorem ready_nilI (hck:vDf .any ops=true) {listed:Array Bool} (hl:listed.size=ops.size) (h:Region.ready .any ops listed=[]):∀j,j<ops.size→listed.getD j false=true:=by
 unfold vDf at hck;simp only [Bool.and_eq_true,List.all_eq_true,List.mem_range] at hck;intro j
 induction j using Nat.strongRecOn with
 |ind j ih=>
  intro hj
  cases hd:listed.getD j false with
  |true=>rfl
  |false=>
   have hr:j∈Region.ready .any ops (upto ops.size j):=by simpa using (hck.2 j hj).2
   obtain ⟨_,o,ho,ha⟩:=mem_ready.1 hr
   have hin:j∈Region.ready .any ops listed:=mem_ready.2 ⟨by
    have hjl:j<listed.size:=by omega
    simp [hjl] at hd ⊢
    exact hd,o,ho,fun e he hb=>by
    have h1:=ha e he hb
    have h2:e.on<j:=by
     unfold upto at h1
     by_cases g:e.on<ops.size
     · simpa [g] using h1
     · simp [g] at h1
    exact ih e.on h2 (by omega)⟩
   rw [h] at hin
   cases hin
theorem wpAny_inv (Inv:(Nat→Bool)→Act→World→Prop) (hck:vDf .any ops=true)
 (hstep:∀d a w j o,Inv d a w→ops[j]?=some o→d j=false→(∀i,(o.after.any fun e=>e.on == i && Region.binds .any e)=true→d i=true)→StepI P ops o a w (fun v w'=>Inv (fun i=>i == j || d i) (a.put o.dst v) w'))
 (hend:∀d a w,Inv d a w→(∀j,j<ops.size→d j=true)→Q .normal a w):
 ∀(fuel:Nat) (listed:Array Bool) (a:Act) (w:World),listed.size=ops.size→leftI (fun i=>listed.getD i false) ops.size≤fuel→Inv (fun i=>listed.getD i false) a w→wpAny P .any ops Q fuel listed a w:=by
 intro fuel
 induction fuel with
 |zero=>
  intro listed a w hs hf hI;have hall:=leftI_zero _ _ (Nat.le_zero.1 hf);refine ⟨?_,hend _ _ _ hI hall⟩;rw [List.eq_nil_iff_forall_not_mem];intro j hj;obtain ⟨h0,o,ho,_⟩:=mem_ready.1 hj;have hlt:=(Array.getElem?_eq_some_iff.1 ho).1
  have:=hall j hlt
  have hjl:j<listed.size:=by omega
  simp [hjl] at this h0;rw [this] at h0
  cases h0
 |succ fuel ih=>
  intro listed a w hs hf hI;refine ⟨fun hr=>hend _ _ _ hI (ready_nilI hck hs hr),fun j hj=>?_⟩;obtain ⟨h0,o,ho,ha⟩:=mem_ready.1 hj;have hlt:=(Array.getElem?_eq_some_iff.1 ho).1
  have hjl:j<listed.size:=by omega
  have hd:(fun i=>listed.getD i false) j=false:=by
   simp [hjl] at h0 ⊢;exact h0
  have hfn:(fun i=>(listed.setIfInBounds j true).getD i false)=(fun i=>i == j || listed.getD i false):=by
   funext i
   by_cases e:i=j
   · subst e;simp [hjl]
   · rw [getD_set_ne false (fun g=>e g.symm)]
     have:(i == j)=false:=by simpa using e
     rw [this]
     rfl
  refine StepI.wpOp ho ?_
  have hst:=hstep _ a w j o hI ho hd (fun i hi=>by
   obtain ⟨e,he,hb⟩:=Array.any_eq_true'.1 hi;simp only [Bool.and_eq_true,beq_iff_eq] at hb;rw [←hb.1]
   exact ha e he hb.2)
  have hK:∀v w',Inv (fun i=>i == j || listed.getD i false) (a.put o.dst v) w'→wpAny P .any ops Q fuel (listed.setIfInBounds j true) (a.put o.dst v) w':=fun v w' h=>by
   refine ih _ _ _ (by simpa using hs) ?_ (by rw [hfn];exact h);rw [hfn]
   have:=leftI_set (fun i=>listed.getD i false) j hd ops.size
   rw [if_pos hlt] at this;omega
  rcases hst with ⟨hw,hr⟩|⟨hw,hr⟩
  · refine .inl ⟨hw,?_⟩
    generalize (execOp a.eval o).run P w=r at hr ⊢
    cases r with
    |ok n w'=>
     cases n with
     |value u=>exact hK _ _ hr
     |skip=>exact hK _ _ hr
     |enter f args=>exact Calls.mono (show Calls P f args w' _ from hr) fun e w'' ⟨v,he,hs⟩=>⟨v,he,hK _ _ hs⟩
     |_=>exact (show False from hr).elim
    |halt x w'=>exact (show False from hr).elim
  · exact .inr ⟨hw,hK _ _ hr⟩
theorem leftI_none:∀n,leftI (fun _=>false) n=n
 |0=>rfl
 |n+1=>by unfold leftI;rw [leftI_none n];simp
theorem vCr {l:List Oper} {id:Nat} {a:Act} {w:World} (Inv:(Nat→Bool)→Act→World→Prop) (hm:P.follows .mixedOrders=true) (hck:vDf .any l.toArray=true) (h0:Inv (fun _=>false) a w.drew)
 (hstep:∀d a w j o,Inv d a w→l[j]?=some o→d j=false→(∀i,(o.after.any fun e=>e.on == i && Region.binds .any e)=true→d i=true)→StepI P l.toArray o a w (fun v w'=>Inv (fun i=>i == j || d i) (a.put o.dst v) w'))
 (hend:∀d a w,Inv d a w→(∀j,j<l.length→d j=true)→Q .normal a w):(Code.region id l.toArray true).wp P Q a w:=by
 have hfn:(fun i=>(Array.replicate l.toArray.size false).getD i false)=(fun _=>false):=by
  funext i
  by_cases h:i<l.length<;>simp [h]
 refine wp_region_any hm (wpAny_inv Inv hck (fun d a w j o hI ho hd hdep=>hstep d a w j o hI (by simpa using ho) hd hdep) (fun d a w hI hall=>hend d a w hI (by simpa using hall)) _ _ _ _ (by simp) (by rw [hfn,leftI_none];exact Nat.le_refl _) (by rw [hfn];exact h0))
end
end Go.Proofs.YtkpbbfehglihlaaGreatDoor
