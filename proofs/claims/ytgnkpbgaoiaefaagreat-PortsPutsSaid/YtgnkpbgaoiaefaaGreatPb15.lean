import Derived.Test.YtgnkpbgaoiaefaaGreatPb12
import Derived.Test.YtgnkpbgaoiaefaaGreatPb13
import Derived.Test.YtgnkpbgaoiaefaaGreatPb14
import Derived.Test.YtgnkpbgaoiaefaaGreatPb11
import Derived.Deep.CutBlock
import Derived.Deep.DeepCutAuto
import Derived.Deep.RegionHeldLaw
set_option maxRecDepth 100000
set_option maxHeartbeats 40000000
namespace Go.Proofs.YtgnkpbgaoiaefaaGreat
open Go.Lib (hid)
open Go.RowKit
structure NetOk (N:NV):Prop where
 zdv:N.devices.length≤8
 zpt:N.ports.length≤40
 zlk:N.links.length≤20
 zdm:N.domains.length≤48
 zst:N.statics.length≤64
 zfl:N.floods.length≤48
 zvr:N.vrfs.length≤16
 zir:N.irbs.length≤48
 dm:DomsOk N
 pt:∀i,i<N.ports.length→PortOk N i (N.ports.getD i PortV.zero)
 lk:∀i,i<N.links.length→LinkOk N i (N.links.getD i LinkV.zero)
 rs:RestOk N
noncomputable def netB (N:NV):Bool:=@decide (NetOk N) (Classical.propDecidable _)
theorem netB_no {N:NV} (h:¬NetOk N):netB N=false:=by
 unfold netB;exact @decide_eq_false _ (Classical.propDecidable _) h
theorem netB_yes {N:NV} (h:NetOk N):netB N=true:=by
 unfold netB;exact @decide_eq_true _ (Classical.propDecidable _) h
theorem netB_iff (N:NV):netB N=true↔NetOk N:=by
 unfold netB;exact @decide_eq_true_iff _ (Classical.propDecidable _)
theorem rnright_any (N:NV) (S:NSl3) (w:World) (h:NRead w (vAs w) N S):Calls Tryz.prog 31 #[vBb S] w fun e w'=>e=.returned (.bool (netB N))∧Below w.heap.size w w':=by
 have LE_dv:=hid h.dv.len;have hle_dv:=h.dv.le;have hcap_dv:=h.dv.cap;have LE_pt:=hid h.pt.len;have hle_pt:=h.pt.le;have hcap_pt:=h.pt.cap;have LE_lk:=hid h.lk.len;have hle_lk:=h.lk.le;have hcap_lk:=h.lk.cap;have LE_dm:=hid h.dm.len;have hle_dm:=h.dm.le;have hcap_dm:=h.dm.cap;have LE_st:=hid h.st.len;have hle_st:=h.st.le;have hcap_st:=h.st.cap;have LE_fl:=hid h.fl.len;have hle_fl:=h.fl.le
 have hcap_fl:=h.fl.cap;have LE_vr:=hid h.vr.len;have hle_vr:=h.vr.le;have hcap_vr:=h.vr.cap;have LE_ir:=hid h.ir.len;have hle_ir:=h.ir.le;have hcap_ir:=h.ir.cap;have NO:=hid (@netB_no N);have YES:=hid (@netB_yes N)
 have UPN:=fun (w':World) (hb:Below w.heap.size w w')=>h.up hb
 have D1:=fun (w':World) (hb:Below w.heap.size w w')=>domains_any N S w' (UPN w' hb)
 have D2:=fun (w':World) (hb:Below w.heap.size w w')=>ports_any N S w' (UPN w' hb)
 have D3:=fun (w':World) (hb:Below w.heap.size w w')=>links_any N S w' (UPN w' hb)
 have D4:=fun (w':World) (hb:Below w.heap.size w w')=>rest_any N S w' (UPN w' hb)
 obtain ⟨v1,hv1⟩:∃v,dmsB N=v:=⟨_,rfl⟩;obtain ⟨v2,hv2⟩:∃v,ptsB N=v:=⟨_,rfl⟩;obtain ⟨v3,hv3⟩:∃v,lksB N=v:=⟨_,rfl⟩;obtain ⟨v4,hv4⟩:∃v,rstB N=v:=⟨_,rfl⟩;rw [hv1] at D1;rw [hv2] at D2;rw [hv3] at D3;rw [hv4] at D4;unfold vBb at D1 D2 D3 D4 ⊢;have D1:=hid D1;have D2:=hid D2;have D3:=hid D3;have D4:=hid D4;have NB:=hid (NBox.new w S 31);have F1:=hid (show v1=false→¬NetOk N from fun e g=>by have:=(dmsB_iff N).2 g.dm;rw [hv1,e] at this;cases this)
 have F2:=hid (show v2=false→¬NetOk N from fun e g=>by have:=(ptsB_iff N).2 g.pt;rw [hv2,e] at this;cases this);have F3:=hid (show v3=false→¬NetOk N from fun e g=>by have:=(lksB_iff N).2 g.lk;rw [hv3,e] at this;cases this);have F4:=hid (show v4=false→¬NetOk N from fun e g=>by have:=(rstB_iff N).2 g.rs;rw [hv4,e] at this;cases this);have T1:=hid (show v1=true→DomsOk N from fun e=>(dmsB_iff N).1 (hv1.trans e))
 have T2:=hid (show v2=true→_ from fun e=>(ptsB_iff N).1 (hv2.trans e));have T3:=hid (show v3=true→_ from fun e=>(lksB_iff N).1 (hv3.trans e));have T4:=hid (show v4=true→_ from fun e=>(rstB_iff N).1 (hv4.trans e));generalize netB N=V at *;clear h UPN hv1 hv2 hv3 hv4
 have KN:=hid (show ∀wx,Below (w.alloc (.cells (nA S) 31)).heap.size (w.alloc (.cells (nA S) 31)) wx→(NF wx w.heap.size S)∧Below w.heap.size w wx from fun wx hx=>by
  have nb:=NB.out.below hx
  exact ⟨⟨nb.c0,nb.c1,nb.c2,nb.c3,nb.c4,nb.c5,nb.c6,nb.c7⟩,((Below.refl _ _).alloc (Nat.le_refl _) _).trans (hx.mono (by simp))⟩)
 have B0:=hid (show Below w.heap.size w (w.alloc (.cells (nA S) 31)) from (Below.refl _ _).alloc (Nat.le_refl _) _)
 by_cases c_dv:8<S.dv.n
 · have z_dv:(8:Int)<(S.dv.n:Int):=by omega
   have EV:=hid (NO.out (fun g=>by have:=g.zdv;rw [LE_dv.out] at this;omega));clear c_dv
   go_enter Tryz.func31,Tryz.ntmps31
   go_wp2;go_ret;exact ⟨by rw [EV.out];rfl,B0.out⟩
 have z_dv:¬(8:Int)<(S.dv.n:Int):=by omega
 by_cases c_pt:40<S.pt.n
 · have z_pt:(40:Int)<(S.pt.n:Int):=by omega
   have EV:=hid (NO.out (fun g=>by have:=g.zpt;rw [LE_pt.out] at this;omega));clear c_pt
   go_enter Tryz.func31,Tryz.ntmps31
   go_wp2;go_ret;exact ⟨by rw [EV.out];rfl,B0.out⟩
 have z_pt:¬(40:Int)<(S.pt.n:Int):=by omega
 by_cases c_lk:20<S.lk.n
 · have z_lk:(20:Int)<(S.lk.n:Int):=by omega
   have EV:=hid (NO.out (fun g=>by have:=g.zlk;rw [LE_lk.out] at this;omega));clear c_lk
   go_enter Tryz.func31,Tryz.ntmps31
   go_wp2;go_ret;exact ⟨by rw [EV.out];rfl,B0.out⟩
 have z_lk:¬(20:Int)<(S.lk.n:Int):=by omega
 by_cases c_dm:48<S.dm.n
 · have z_dm:(48:Int)<(S.dm.n:Int):=by omega
   have EV:=hid (NO.out (fun g=>by have:=g.zdm;rw [LE_dm.out] at this;omega));clear c_dm
   go_enter Tryz.func31,Tryz.ntmps31
   go_wp2;go_ret;exact ⟨by rw [EV.out];rfl,B0.out⟩
 have z_dm:¬(48:Int)<(S.dm.n:Int):=by omega
 by_cases c_st:64<S.st.n
 · have z_st:(64:Int)<(S.st.n:Int):=by omega
   have EV:=hid (NO.out (fun g=>by have:=g.zst;rw [LE_st.out] at this;omega));clear c_st
   go_enter Tryz.func31,Tryz.ntmps31
   go_wp2;go_ret;exact ⟨by rw [EV.out];rfl,B0.out⟩
 have z_st:¬(64:Int)<(S.st.n:Int):=by omega
 by_cases c_fl:48<S.fl.n
 · have z_fl:(48:Int)<(S.fl.n:Int):=by omega
   have EV:=hid (NO.out (fun g=>by have:=g.zfl;rw [LE_fl.out] at this;omega));clear c_fl
   go_enter Tryz.func31,Tryz.ntmps31
   go_wp2;go_ret;exact ⟨by rw [EV.out];rfl,B0.out⟩
 have z_fl:¬(48:Int)<(S.fl.n:Int):=by omega
 by_cases c_vr:16<S.vr.n
 · have z_vr:(16:Int)<(S.vr.n:Int):=by omega
   have EV:=hid (NO.out (fun g=>by have:=g.zvr;rw [LE_vr.out] at this;omega));clear c_vr
   go_enter Tryz.func31,Tryz.ntmps31
   go_wp2;go_ret;exact ⟨by rw [EV.out];rfl,B0.out⟩
 have z_vr:¬(16:Int)<(S.vr.n:Int):=by omega
 by_cases c_ir:48<S.ir.n
 · have z_ir:(48:Int)<(S.ir.n:Int):=by omega
   have EV:=hid (NO.out (fun g=>by have:=g.zir;rw [LE_ir.out] at this;omega));clear c_ir
   go_enter Tryz.func31,Tryz.ntmps31
   go_wp2;go_ret;exact ⟨by rw [EV.out];rfl,B0.out⟩
 have z_ir:¬(48:Int)<(S.ir.n:Int):=by omega
 have SZ:=hid (show N.devices.length≤8∧N.ports.length≤40∧N.links.length≤20∧N.domains.length≤48∧N.statics.length≤64∧N.floods.length≤48∧N.vrfs.length≤16∧N.irbs.length≤48 from ⟨by rw [LE_dv.out];omega,by rw [LE_pt.out];omega,by rw [LE_lk.out];omega,by rw [LE_dm.out];omega,by rw [LE_st.out];omega,by rw [LE_fl.out];omega,by rw [LE_vr.out];omega,by rw [LE_ir.out];omega⟩);clear c_dv c_pt c_lk c_dm c_st c_fl c_vr c_ir
 cases v1
 · have EV:=hid (NO.out (F1.out rfl))
   go_enter Tryz.func31,Tryz.ntmps31
   go_wp2_with (first
    |(go_at_call 83;(with_reducible refine (D1.out _ B0.out).mono ?_);rintro e w1_ ⟨rfl,b1_⟩;have Y1:=hid (b1_);obtain ⟨⟨f0,f1,f2,f3,f4,f5,f6,f7⟩,hB⟩:=KN.out w1_ Y1.out;have X1:=hid hB;clear hB b1_))
   go_ret;exact ⟨by rw [EV.out];rfl,X1.out⟩
 cases v2
 · have EV:=hid (NO.out (F2.out rfl))
   go_enter Tryz.func31,Tryz.ntmps31
   go_wp2_with (first
    |(go_at_call 83;(with_reducible refine (D1.out _ B0.out).mono ?_);rintro e w1_ ⟨rfl,b1_⟩;have Y1:=hid (b1_);obtain ⟨⟨f0,f1,f2,f3,f4,f5,f6,f7⟩,hB⟩:=KN.out w1_ Y1.out;have X1:=hid hB;clear hB b1_)
    |(go_at_call 84;(with_reducible refine (D2.out _ X1.out).mono ?_);rintro e w2_ ⟨rfl,b2_⟩;have Y2:=hid (vAa Y1.out b2_);obtain ⟨⟨f0,f1,f2,f3,f4,f5,f6,f7⟩,hB⟩:=KN.out w2_ Y2.out;have X2:=hid hB;clear hB b2_))
   go_ret;exact ⟨by rw [EV.out];rfl,X2.out⟩
 cases v3
 · have EV:=hid (NO.out (F3.out rfl))
   go_enter Tryz.func31,Tryz.ntmps31
   go_wp2_with (first
    |(go_at_call 83;(with_reducible refine (D1.out _ B0.out).mono ?_);rintro e w1_ ⟨rfl,b1_⟩;have Y1:=hid (b1_);obtain ⟨⟨f0,f1,f2,f3,f4,f5,f6,f7⟩,hB⟩:=KN.out w1_ Y1.out;have X1:=hid hB;clear hB b1_)
    |(go_at_call 84;(with_reducible refine (D2.out _ X1.out).mono ?_);rintro e w2_ ⟨rfl,b2_⟩;have Y2:=hid (vAa Y1.out b2_);obtain ⟨⟨f0,f1,f2,f3,f4,f5,f6,f7⟩,hB⟩:=KN.out w2_ Y2.out;have X2:=hid hB;clear hB b2_)
    |(go_at_call 85;(with_reducible refine (D3.out _ X2.out).mono ?_);rintro e w3_ ⟨rfl,b3_⟩;have Y3:=hid (vAa Y2.out b3_);obtain ⟨⟨f0,f1,f2,f3,f4,f5,f6,f7⟩,hB⟩:=KN.out w3_ Y3.out;have X3:=hid hB;clear hB b3_))
   go_ret;exact ⟨by rw [EV.out];rfl,X3.out⟩
 cases v4
 · have EV:=hid (NO.out (F4.out rfl))
   go_enter Tryz.func31,Tryz.ntmps31
   go_wp2_with (first
    |(go_at_call 83;(with_reducible refine (D1.out _ B0.out).mono ?_);rintro e w1_ ⟨rfl,b1_⟩;have Y1:=hid (b1_);obtain ⟨⟨f0,f1,f2,f3,f4,f5,f6,f7⟩,hB⟩:=KN.out w1_ Y1.out;have X1:=hid hB;clear hB b1_)
    |(go_at_call 84;(with_reducible refine (D2.out _ X1.out).mono ?_);rintro e w2_ ⟨rfl,b2_⟩;have Y2:=hid (vAa Y1.out b2_);obtain ⟨⟨f0,f1,f2,f3,f4,f5,f6,f7⟩,hB⟩:=KN.out w2_ Y2.out;have X2:=hid hB;clear hB b2_)
    |(go_at_call 85;(with_reducible refine (D3.out _ X2.out).mono ?_);rintro e w3_ ⟨rfl,b3_⟩;have Y3:=hid (vAa Y2.out b3_);obtain ⟨⟨f0,f1,f2,f3,f4,f5,f6,f7⟩,hB⟩:=KN.out w3_ Y3.out;have X3:=hid hB;clear hB b3_)
    |(go_at_call 86;(with_reducible refine (D4.out _ X3.out).mono ?_);rintro e w4_ ⟨rfl,b4_⟩;have Y4:=hid (vAa Y3.out b4_);obtain ⟨⟨f0,f1,f2,f3,f4,f5,f6,f7⟩,hB⟩:=KN.out w4_ Y4.out;have X4:=hid hB;clear hB b4_))
   go_ret;exact ⟨by rw [EV.out];rfl,X4.out⟩
 have EV:=hid (YES.out ⟨SZ.out.1,SZ.out.2.1,SZ.out.2.2.1,SZ.out.2.2.2.1,SZ.out.2.2.2.2.1,SZ.out.2.2.2.2.2.1,SZ.out.2.2.2.2.2.2.1,SZ.out.2.2.2.2.2.2.2,T1.out rfl,T2.out rfl,T3.out rfl,T4.out rfl⟩)
 go_enter Tryz.func31,Tryz.ntmps31
 go_wp2_with (first
  |(go_at_call 83;(with_reducible refine (D1.out _ B0.out).mono ?_);rintro e w1_ ⟨rfl,b1_⟩;have Y1:=hid (b1_);obtain ⟨⟨f0,f1,f2,f3,f4,f5,f6,f7⟩,hB⟩:=KN.out w1_ Y1.out;have X1:=hid hB;clear hB b1_)
  |(go_at_call 84;(with_reducible refine (D2.out _ X1.out).mono ?_);rintro e w2_ ⟨rfl,b2_⟩;have Y2:=hid (vAa Y1.out b2_);obtain ⟨⟨f0,f1,f2,f3,f4,f5,f6,f7⟩,hB⟩:=KN.out w2_ Y2.out;have X2:=hid hB;clear hB b2_)
  |(go_at_call 85;(with_reducible refine (D3.out _ X2.out).mono ?_);rintro e w3_ ⟨rfl,b3_⟩;have Y3:=hid (vAa Y2.out b3_);obtain ⟨⟨f0,f1,f2,f3,f4,f5,f6,f7⟩,hB⟩:=KN.out w3_ Y3.out;have X3:=hid hB;clear hB b3_)
  |(go_at_call 86;(with_reducible refine (D4.out _ X3.out).mono ?_);rintro e w4_ ⟨rfl,b4_⟩;have Y4:=hid (vAa Y3.out b4_);obtain ⟨⟨f0,f1,f2,f3,f4,f5,f6,f7⟩,hB⟩:=KN.out w4_ Y4.out;have X4:=hid hB;clear hB b4_))
 go_ret;exact ⟨by rw [EV.out];rfl,X4.out⟩
def Cs (w:World) (q:Nat) (l:List Value):Prop:=(∀j v,l[j]?=some v→w.cell? ⟨q,j,none⟩=some v)∧q<w.heap.size
theorem Cs.below {w w':World} {q:Nat} {l:List Value} (h:Cs w q l) (hb:Below w.heap.size w w'):Cs w' q l:=
 ⟨fun j v hj=>(hb.cell (p:=⟨q,j,none⟩) h.2).trans (h.1 j v hj),Nat.lt_of_lt_of_le h.2 hb.size⟩
theorem Cs.new (w:World) (l:List Value) (T:TypeId):Cs (w.alloc (.cells l.toArray T)) w.heap.size l:=
 ⟨fun j v hj=>by rw [World.cell?_alloc_new];simpa using hj,by simp⟩
theorem vAc (w:World) (o:Obj):Below w.heap.size w (w.alloc o):=(Below.refl _ _).alloc (Nat.le_refl _) _
theorem vBl (w:World) (o p:Obj):Below w.heap.size w ((w.alloc o).alloc p):=(vAc w o).alloc (by simp) _
theorem alloc3_below (w:World) (o p q:Obj):Below w.heap.size w (((w.alloc o).alloc p).alloc q):=(vBl w o p).alloc (by simp;omega) _
theorem net_cs {w:World} (S:NSl3) (T U:TypeId) (l:List Value) {W:World} (hW:(w.alloc (.cells (nA S) T)).alloc (.cells l.toArray U)=W):Cs W w.heap.size (vBx S)∧Cs W (w.heap.size+1) l∧Below w.heap.size w W:=by
 subst hW;have h1:Cs (w.alloc (.cells (nA S) T)) w.heap.size (vBx S):=Cs.new w (vBx S) T;have h2:=Cs.new (w.alloc (.cells (nA S) T)) l U;rw [show (w.alloc (.cells (nA S) T)).heap.size=w.heap.size+1 by simp] at h2;exact ⟨h1.below (vAc _ _),h2,vBl _ _ _⟩
def lkB (N:NV) (i:Nat) (L:LinkV):Bool:=plB L.a (N.ports.length:Int) && (plB L.b (N.ports.length:Int) && (decide ((N.ports.getD L.a.toNat PortV.zero).dev≠(N.ports.getD L.b.toNat PortV.zero).dev) && (decide ((N.ports.getD L.a.toNat PortV.zero).link=(i:Int)) && decide ((N.ports.getD L.b.toNat PortV.zero).link=(i:Int)))))
theorem lkB_iff (N:NV) (i:Nat) (L:LinkV):lkB N i L=true↔LinkOk N i L:=by
 simp only [lkB,Bool.and_eq_true,decide_eq_true_eq];exact ⟨fun ⟨h1,h2,h3,h4,h5⟩=>⟨h1,h2,h3,h4,h5⟩,fun h=>⟨h.a,h.b,h.dev,h.la,h.lb⟩⟩
theorem link_any (N:NV) (S:NSl3) (i:Nat) (L:LinkV) (w:World) (h:NRead w (vAs w) N S):Calls Tryz.prog 45 #[vBb S,.int .i64 (i:Int),.agg #[.int .i64 L.row,.int .i64 L.a,.int .i64 L.b]] w fun e w'=>e=.returned (.bool (lkB N i L))∧Below w.heap.size w w':=by
 have HP:=hid h.pt;have hle:=h.pt.le;have hcap:=h.pt.cap;have PL:=h.pt.len
 have PA:=fun w'=>vIi L.a S.pt.A S.pt.n S.pt.c hle hcap w'
 have PB:=fun w'=>vIi L.b S.pt.A S.pt.n S.pt.c hle hcap w'
 obtain ⟨V,E⟩:∃V,lkB N i L=V:=⟨_,rfl⟩;rw [E];unfold lkB at E;rw [PL] at E;obtain ⟨va,ha⟩:∃v,plB L.a (S.pt.n:Int)=v:=⟨_,rfl⟩;obtain ⟨vb,hb⟩:∃v,plB L.b (S.pt.n:Int)=v:=⟨_,rfl⟩;rw [ha] at PA E;rw [hb] at PB E;have E:=hid E;have HA:=hid ha;have HB:=hid hb;have PA:=hid PA;have PB:=hid PB;clear h PL ha hb;unfold vBb
 go_enter Tryz.func45,Tryz.ntmps45
 go_upto_region 1 with fail
 obtain ⟨W,hW⟩:∃W,(w.alloc (.cells (nA S) 31)).alloc (.cells #[.int .i64 L.row,.int .i64 L.a,.int .i64 L.b] 77)=W:=⟨_,rfl⟩;have NC:=net_cs S _ _ [.int .i64 L.row,.int .i64 L.a,.int .i64 L.b] hW;rw [hW];clear hW
 have KQ:=hid (show ∀wx,Below W.heap.size W wx→(NF wx w.heap.size S)∧(wx.cell? ⟨w.heap.size+1,0,none⟩=some (.int .i64 L.row)∧wx.cell? ⟨w.heap.size+1,1,none⟩=some (.int .i64 L.a)∧wx.cell? ⟨w.heap.size+1,2,none⟩=some (.int .i64 L.b))∧Below w.heap.size w wx from fun wx hx=>by
  have n:=(NC.1.below hx).1;have r:=(NC.2.1.below hx).1
  exact ⟨⟨n 0 _ rfl,n 1 _ rfl,n 2 _ rfl,n 3 _ rfl,n 4 _ rfl,n 5 _ rfl,n 6 _ rfl,n 7 _ rfl⟩,⟨r 0 _ rfl,r 1 _ rfl,r 2 _ rfl⟩,NC.2.2.trans (hx.mono NC.2.2.size)⟩)
 obtain ⟨⟨f0,f1,f2,f3,f4,f5,f6,f7⟩,⟨g0,g1,g2⟩,hB0⟩:=KQ.out W (Below.refl _ _);have ql:w.heap.size<W.heap.size:=NC.1.2;have ql2:w.heap.size+1<W.heap.size:=NC.2.1.2;have B0:=hid hB0;clear hB0 NC
 cases va with
 |false=>
  have EV:=hid (show V=false by rw [←E.out];rfl);go_wp2_with ((go_at_call 128;(with_reducible refine (PA.out _).mono ?_);rintro e wp ⟨rfl,hwp⟩;subst hwp));go_ret;exact ⟨by rw [EV.out];rfl,B0.out⟩
 |true=>
 cases vb with
 |false=>
  have EV:=hid (show V=false by rw [←E.out];rfl);go_wp2_with (first|(go_at_call 128;(with_reducible refine (PA.out _).mono ?_);rintro e wp ⟨rfl,hwp⟩;subst hwp)|(go_at_call 128;(with_reducible refine (PB.out _).mono ?_);rintro e wp ⟨rfl,hwp⟩;subst hwp));go_ret;exact ⟨by rw [EV.out];rfl,B0.out⟩
 |true=>
 go_upto_region 3 with (first|(go_at_call 128;(with_reducible refine (PA.out _).mono ?_);rintro e wp ⟨rfl,hwp⟩;subst hwp)|(go_at_call 128;(with_reducible refine (PB.out _).mono ?_);rintro e wp ⟨rfl,hwp⟩;subst hwp))
 obtain ⟨a1,a2⟩:=(vBm _ _).1 HA.out;obtain ⟨c1,c2⟩:=(vBm _ _).1 HB.out;obtain ⟨x,hx⟩:=Int.eq_ofNat_of_zero_le a1;obtain ⟨y,hy⟩:=Int.eq_ofNat_of_zero_le c1
 have hxl:x<S.pt.n:=by omega
 have hyl:y<S.pt.n:=by omega
 obtain ⟨bp,op,vp,ep,_,hbp,⟨s,rfl,_⟩,rp⟩:=vAj HP.out x hxl PortV.zero;obtain ⟨bq,oq,vq,eq_,_,_,⟨t,rfl,_⟩,rq⟩:=vAj HP.out y hyl PortV.zero;rw [ep] at eq_
 injection eq_ with eq_
 injection eq_ with h1 h2
 subst h1 h2;have RP:=vAb rp (B0.out.block bp hbp);have RQ:=vAb rq (B0.out.block bp hbp);have E2:=E.out;rw [show L.a.toNat=x by rw [hx];rfl,show L.b.toNat=y by rw [hy];rfl] at E2;rw [hx] at g1;rw [hy] at g2;clear E;generalize N.ports.getD x PortV.zero=P at *;generalize N.ports.getD y PortV.zero=Q at *;have E:=hid E2;clear E2;have p0:=RP 0 _ rfl;have q0:=RQ 0 _ rfl;have p1:=RP 1 _ rfl
 have q1:=RQ 1 _ rfl;have p2:=RP 2 _ rfl;have q2:=RQ 2 _ rfl;have p3:=RP 3 _ rfl;have q3:=RQ 3 _ rfl;have p4:=RP 4 _ rfl;have q4:=RQ 4 _ rfl;have p5:=RP 5 _ rfl;have q5:=RQ 5 _ rfl;have p6:=RP 6 _ rfl;have q6:=RQ 6 _ rfl;simp only [Nat.add_zero] at p0 q0;rw [show op+x * portR.n=op+x * 7 from rfl] at p0 p1 p2 p3 p4 p5 p6;rw [show op+y * portR.n=op+y * 7 from rfl] at q0 q1 q2 q3 q4 q5 q6
 have lx:(x:Int)<(S.pt.n:Int):=by omega
 have ly:(y:Int)<(S.pt.n:Int):=by omega
 rw [ep] at f1;have hbp1:bp<W.heap.size:=Nat.lt_of_lt_of_le hbp B0.out.size;clear rp rq RP RQ a1 a2 c1 c2 hx hy ep PA PB HA HB;have SK:=hid (show ∀wx,Below W.heap.size W wx→(wx.cell? ⟨w.heap.size,1,none⟩=some (.slice (some ⟨bp,op,none⟩) S.pt.n S.pt.c)∧wx.cell? ⟨w.heap.size+1,1,none⟩=some (.int .i64 (x:Int))∧wx.cell? ⟨w.heap.size+1,2,none⟩=some (.int .i64 (y:Int))∧wx.cell? ⟨bp,op+x * 7,none⟩=some (.int .i64 P.row)∧wx.cell? ⟨bp,op+x * 7+1,none⟩=some (.int .i64 P.dev)∧wx.cell? ⟨bp,op+x * 7+2,none⟩=some (.int .i64 P.native)∧wx.cell? ⟨bp,op+x * 7+3,none⟩=some (.int .i64 P.cost)∧wx.cell? ⟨bp,op+x * 7+4,none⟩=some (.int .i64 P.link)∧wx.cell? ⟨bp,op+x * 7+5,none⟩=some (.string (str P.name))∧wx.cell? ⟨bp,op+x * 7+6,none⟩=some (.slice s.A s.n s.c)∧wx.cell? ⟨bp,op+y * 7,none⟩=some (.int .i64 Q.row)∧wx.cell? ⟨bp,op+y * 7+1,none⟩=some (.int .i64 Q.dev)∧wx.cell? ⟨bp,op+y * 7+2,none⟩=some (.int .i64 Q.native)∧wx.cell? ⟨bp,op+y * 7+3,none⟩=some (.int .i64 Q.cost)∧wx.cell? ⟨bp,op+y * 7+4,none⟩=some (.int .i64 Q.link)∧wx.cell? ⟨bp,op+y * 7+5,none⟩=some (.string (str Q.name))∧wx.cell? ⟨bp,op+y * 7+6,none⟩=some (.slice t.A t.n t.c)) from fun wx hx=>⟨(hx.cell (p:=⟨_,1,none⟩) ql).trans f1,(hx.cell (p:=⟨_,1,none⟩) ql2).trans g1,(hx.cell (p:=⟨_,2,none⟩) ql2).trans g2,(hx.cell (p:=⟨bp,_,none⟩) hbp1).trans p0,(hx.cell (p:=⟨bp,_,none⟩) hbp1).trans p1,(hx.cell (p:=⟨bp,_,none⟩) hbp1).trans p2,(hx.cell (p:=⟨bp,_,none⟩) hbp1).trans p3,(hx.cell (p:=⟨bp,_,none⟩) hbp1).trans p4,(hx.cell (p:=⟨bp,_,none⟩) hbp1).trans p5,(hx.cell (p:=⟨bp,_,none⟩) hbp1).trans p6,(hx.cell (p:=⟨bp,_,none⟩) hbp1).trans q0,(hx.cell (p:=⟨bp,_,none⟩) hbp1).trans q1,(hx.cell (p:=⟨bp,_,none⟩) hbp1).trans q2,(hx.cell (p:=⟨bp,_,none⟩) hbp1).trans q3,(hx.cell (p:=⟨bp,_,none⟩) hbp1).trans q4,(hx.cell (p:=⟨bp,_,none⟩) hbp1).trans q5,(hx.cell (p:=⟨bp,_,none⟩) hbp1).trans q6⟩)
 go_cut [7,8] (fun p q wx=>∃b7 b8,p=.pointer (some ⟨b7,0,none⟩)∧q=.pointer (some ⟨b8,0,none⟩)∧Cs wx b7 [.int .i64 P.row,.int .i64 P.dev,.int .i64 P.native,.int .i64 P.cost,.int .i64 P.link,.string (str P.name),.slice s.A s.n s.c]∧Cs wx b8 [.int .i64 Q.row,.int .i64 Q.dev,.int .i64 Q.native,.int .i64 Q.cost,.int .i64 Q.link,.string (str Q.name),.slice t.A t.n t.c]∧Below W.heap.size W wx)
 case first=>
  go_region_held_law (fun w'=>(w'.cell? ⟨w.heap.size,1,none⟩=some (.slice (some ⟨bp,op,none⟩) S.pt.n S.pt.c)∧w'.cell? ⟨w.heap.size+1,1,none⟩=some (.int .i64 (x:Int))∧w'.cell? ⟨w.heap.size+1,2,none⟩=some (.int .i64 (y:Int))∧w'.cell? ⟨bp,op+x * 7,none⟩=some (.int .i64 P.row)∧w'.cell? ⟨bp,op+x * 7+1,none⟩=some (.int .i64 P.dev)∧w'.cell? ⟨bp,op+x * 7+2,none⟩=some (.int .i64 P.native)∧w'.cell? ⟨bp,op+x * 7+3,none⟩=some (.int .i64 P.cost)∧w'.cell? ⟨bp,op+x * 7+4,none⟩=some (.int .i64 P.link)∧w'.cell? ⟨bp,op+x * 7+5,none⟩=some (.string (str P.name))∧w'.cell? ⟨bp,op+x * 7+6,none⟩=some (.slice s.A s.n s.c)∧w'.cell? ⟨bp,op+y * 7,none⟩=some (.int .i64 Q.row)∧w'.cell? ⟨bp,op+y * 7+1,none⟩=some (.int .i64 Q.dev)∧w'.cell? ⟨bp,op+y * 7+2,none⟩=some (.int .i64 Q.native)∧w'.cell? ⟨bp,op+y * 7+3,none⟩=some (.int .i64 Q.cost)∧w'.cell? ⟨bp,op+y * 7+4,none⟩=some (.int .i64 Q.link)∧w'.cell? ⟨bp,op+y * 7+5,none⟩=some (.string (str Q.name))∧w'.cell? ⟨bp,op+y * 7+6,none⟩=some (.slice t.A t.n t.c))) ((refine SK.out _ ?_;(repeat (first|exact Below.refl _ _|exact vAc _ _|exact vBl _ _ _|(with_reducible refine Below.alloc ?_ (by simp<;>omega) _)|refine vAd ?_ 1)))) (fail)
  all_goals (try go_wp2)
  all_goals go_meet
  all_goals (refine ⟨_,_,rfl,rfl,?_,?_,?_⟩)
  all_goals first
   |(refine ⟨fun j v hj=>?_,by (simp<;>omega)⟩;rcases j with _|_|_|_|_|_|_|j<;>first|(simp at hj;done)|(simp at hj;subst hj;simp [go_sem];done))
   |(repeat (first|exact Below.refl _ _|exact vAc _ _|exact vBl _ _ _|(with_reducible refine Below.alloc ?_ (by simp<;>omega) _)|refine vAd ?_ 1))
 case rest=>
 obtain ⟨b7,b8,rfl,rfl,C7,C8,hbw⟩:=hcut;rename World=>w7;obtain ⟨_,_,hB7⟩:=KQ.out _ hbw;have B7:=hid hB7;have m1:=C7.1 1 _ rfl;have m4:=C7.1 4 _ rfl;have o1_:=C8.1 1 _ rfl;have o4_:=C8.1 4 _ rfl;clear p0 p1 p2 p3 p4 p5 p6 q0 q1 q2 q3 q4 q5 q6 f0 f1 f2 f3 f4 f5 f6 f7 g0 g1 g2 hB7 hbw C7 C8
 by_cases t1:P.dev=Q.dev
 · have z1:(P.dev != Q.dev)=false:=by simpa using t1
   have EV:=hid (show V=false by rw [←E.out,decide_eq_false (show ¬P.dev≠Q.dev from fun g=>g t1)];rfl);clear t1;go_wp2;go_ret;exact ⟨by rw [EV.out];rfl,B7.out⟩
 have z1:(P.dev != Q.dev)=true:=by simpa using t1
 by_cases t2:P.link=(i:Int)
 rotate_left
 · have z2:(P.link == (i:Int))=false:=by simpa using t2
   have EV:=hid (show V=false by rw [←E.out,decide_eq_false t2];simp);clear t1 t2;go_wp2;go_ret;exact ⟨by rw [EV.out];rfl,B7.out⟩
 have z2:(P.link == (i:Int))=true:=by simpa using t2
 by_cases t3:Q.link=(i:Int)
 rotate_left
 · have z3:(Q.link == (i:Int))=false:=by simpa using t3
   have EV:=hid (show V=false by rw [←E.out,decide_eq_false t3];simp);clear t1 t2 t3;go_wp2;go_ret;exact ⟨by rw [EV.out];rfl,B7.out⟩
 have z3:(Q.link == (i:Int))=true:=by simpa using t3
 have EV:=hid (show V=true by rw [←E.out,decide_eq_true t1,decide_eq_true t2,decide_eq_true t3];rfl);clear t1 t2 t3;go_wp2;go_ret;exact ⟨by rw [EV.out];rfl,B7.out⟩
end Go.Proofs.YtgnkpbgaoiaefaaGreat
