import Derived.Test.YtnpembgchmmbjaaGreatLb09
import Derived.Test.YtnpembgchmmbjaaGreatLb10
import Derived.Test.YtnpembgchmmbjaaGreatLb11
import Derived.Test.YtnpembgchmmbjaaGreatLb01
import Derived.Laws.AppendOwnNone
import Derived.Laws.CopyOwn
import Derived.Deep.RegionHeldLaw
import Derived.Lib.SmallJoins
import Derived.Lib.SliceRun
set_option maxRecDepth 100000
set_option maxHeartbeats 40000000
namespace Go.Proofs.YtnpembgchmmbjaaGreat
open Go.RowKit
structure NetOk (N:NV):Prop where
 zdv:N.devices.length≤8
 zpt:N.ports.length≤40
 zlk:N.links.length≤20
 zdm:N.domains.length≤48
 zst:N.statics.length≤64
 zfl:N.floods.length≤48
 zvr:N.vrfs.length≤16
 zir:N.irbs.length≤48
 dm:DomsOk N
 pt:∀i,i<N.ports.length→PortOk N i (N.ports.getD i PortV.zero)
 lk:∀i,i<N.links.length→LinkOk N i (N.links.getD i LinkV.zero)
 rs:RestOk N
noncomputable def netB (N:NV):Bool:=@decide (NetOk N) (Classical.propDecidable _)
theorem netB_no {N:NV} (h:¬NetOk N):netB N=false:=by
 unfold netB;exact @decide_eq_false _ (Classical.propDecidable _) h
theorem vFy {N:NV} (h:NetOk N):netB N=true:=by
 unfold netB;exact @decide_eq_true _ (Classical.propDecidable _) h
theorem vHd (N:NV):netB N=true↔NetOk N:=by
 unfold netB;exact @decide_eq_true_iff _ (Classical.propDecidable _)
theorem rnright_any (N:NV) (S:NSl3) (w:World) (h:NRead w (vAw w) N S):Calls Tryz.prog 88 #[vAy S] w fun e w'=>e=.returned (.bool (netB N))∧Below w.heap.size w w':=by
 have LE_dv:=Lib.hid h.dv.len;have hle_dv:=h.dv.le;have hcap_dv:=h.dv.cap;have LE_pt:=Lib.hid h.pt.len;have hle_pt:=h.pt.le;have hcap_pt:=h.pt.cap;have LE_lk:=Lib.hid h.lk.len;have hle_lk:=h.lk.le;have hcap_lk:=h.lk.cap;have LE_dm:=Lib.hid h.dm.len;have hle_dm:=h.dm.le;have hcap_dm:=h.dm.cap;have LE_st:=Lib.hid h.st.len;have hle_st:=h.st.le;have hcap_st:=h.st.cap;have LE_fl:=Lib.hid h.fl.len;have hle_fl:=h.fl.le
 have hcap_fl:=h.fl.cap;have LE_vr:=Lib.hid h.vr.len;have hle_vr:=h.vr.le;have hcap_vr:=h.vr.cap;have LE_ir:=Lib.hid h.ir.len;have hle_ir:=h.ir.le;have hcap_ir:=h.ir.cap;have NO:=Lib.hid (@netB_no N);have YES:=Lib.hid (@vFy N)
 have UPN:=fun (w':World) (hb:Below w.heap.size w w')=>h.up hb
 have D1:=fun (w':World) (hb:Below w.heap.size w w')=>domains_any N S w' (UPN w' hb)
 have D2:=fun (w':World) (hb:Below w.heap.size w w')=>ports_any N S w' (UPN w' hb)
 have D3:=fun (w':World) (hb:Below w.heap.size w w')=>links_any N S w' (UPN w' hb)
 have D4:=fun (w':World) (hb:Below w.heap.size w w')=>rest_any N S w' (UPN w' hb)
 obtain ⟨v1,hv1⟩:∃v,dmsB N=v:=⟨_,rfl⟩;obtain ⟨v2,hv2⟩:∃v,ptsB N=v:=⟨_,rfl⟩;obtain ⟨v3,hv3⟩:∃v,lksB N=v:=⟨_,rfl⟩;obtain ⟨v4,hv4⟩:∃v,rstB N=v:=⟨_,rfl⟩;rw [hv1] at D1;rw [hv2] at D2;rw [hv3] at D3;rw [hv4] at D4;unfold vAy at D1 D2 D3 D4 ⊢;have D1:=Lib.hid D1;have D2:=Lib.hid D2;have D3:=Lib.hid D3;have D4:=Lib.hid D4;have NB:=Lib.hid (NBox.new w S 31);have F1:=Lib.hid (show v1=false→¬NetOk N from fun e g=>by have:=(dmsB_iff N).2 g.dm;rw [hv1,e] at this;cases this)
 have F2:=Lib.hid (show v2=false→¬NetOk N from fun e g=>by have:=(ptsB_iff N).2 g.pt;rw [hv2,e] at this;cases this);have F3:=Lib.hid (show v3=false→¬NetOk N from fun e g=>by have:=(lksB_iff N).2 g.lk;rw [hv3,e] at this;cases this);have F4:=Lib.hid (show v4=false→¬NetOk N from fun e g=>by have:=(rstB_iff N).2 g.rs;rw [hv4,e] at this;cases this);have T1:=Lib.hid (show v1=true→DomsOk N from fun e=>(dmsB_iff N).1 (hv1.trans e))
 have T2:=Lib.hid (show v2=true→_ from fun e=>(ptsB_iff N).1 (hv2.trans e));have T3:=Lib.hid (show v3=true→_ from fun e=>(lksB_iff N).1 (hv3.trans e));have T4:=Lib.hid (show v4=true→_ from fun e=>(rstB_iff N).1 (hv4.trans e));generalize netB N=V at *;clear h UPN hv1 hv2 hv3 hv4
 have KN:=Lib.hid (show ∀wx,Below (w.alloc (.cells (nA S) 31)).heap.size (w.alloc (.cells (nA S) 31)) wx→(NF wx w.heap.size S)∧Below w.heap.size w wx from fun wx hx=>by
  have nb:=NB.out.below hx
  exact ⟨⟨nb.c0,nb.c1,nb.c2,nb.c3,nb.c4,nb.c5,nb.c6,nb.c7⟩,((Below.refl _ _).alloc (Nat.le_refl _) _).trans (hx.mono (by simp))⟩)
 have B0:=Lib.hid (show Below w.heap.size w (w.alloc (.cells (nA S) 31)) from (Below.refl _ _).alloc (Nat.le_refl _) _)
 by_cases c_dv:8<S.dv.n
 · have z_dv:(8:Int)<(S.dv.n:Int):=by omega
   have EV:=Lib.hid (NO.out (fun g=>by have:=g.zdv;rw [LE_dv.out] at this;omega));clear c_dv
   go_enter Tryz.func88,Tryz.ntmps88
   go_wp2;go_ret;exact ⟨by rw [EV.out];rfl,B0.out⟩
 have z_dv:¬(8:Int)<(S.dv.n:Int):=by omega
 by_cases c_pt:40<S.pt.n
 · have z_pt:(40:Int)<(S.pt.n:Int):=by omega
   have EV:=Lib.hid (NO.out (fun g=>by have:=g.zpt;rw [LE_pt.out] at this;omega));clear c_pt
   go_enter Tryz.func88,Tryz.ntmps88
   go_wp2;go_ret;exact ⟨by rw [EV.out];rfl,B0.out⟩
 have z_pt:¬(40:Int)<(S.pt.n:Int):=by omega
 by_cases c_lk:20<S.lk.n
 · have z_lk:(20:Int)<(S.lk.n:Int):=by omega
   have EV:=Lib.hid (NO.out (fun g=>by have:=g.zlk;rw [LE_lk.out] at this;omega));clear c_lk
   go_enter Tryz.func88,Tryz.ntmps88
   go_wp2;go_ret;exact ⟨by rw [EV.out];rfl,B0.out⟩
 have z_lk:¬(20:Int)<(S.lk.n:Int):=by omega
 by_cases c_dm:48<S.dm.n
 · have z_dm:(48:Int)<(S.dm.n:Int):=by omega
   have EV:=Lib.hid (NO.out (fun g=>by have:=g.zdm;rw [LE_dm.out] at this;omega));clear c_dm
   go_enter Tryz.func88,Tryz.ntmps88
   go_wp2;go_ret;exact ⟨by rw [EV.out];rfl,B0.out⟩
 have z_dm:¬(48:Int)<(S.dm.n:Int):=by omega
 by_cases c_st:64<S.st.n
 · have z_st:(64:Int)<(S.st.n:Int):=by omega
   have EV:=Lib.hid (NO.out (fun g=>by have:=g.zst;rw [LE_st.out] at this;omega));clear c_st
   go_enter Tryz.func88,Tryz.ntmps88
   go_wp2;go_ret;exact ⟨by rw [EV.out];rfl,B0.out⟩
 have z_st:¬(64:Int)<(S.st.n:Int):=by omega
 by_cases c_fl:48<S.fl.n
 · have z_fl:(48:Int)<(S.fl.n:Int):=by omega
   have EV:=Lib.hid (NO.out (fun g=>by have:=g.zfl;rw [LE_fl.out] at this;omega));clear c_fl
   go_enter Tryz.func88,Tryz.ntmps88
   go_wp2;go_ret;exact ⟨by rw [EV.out];rfl,B0.out⟩
 have z_fl:¬(48:Int)<(S.fl.n:Int):=by omega
 by_cases c_vr:16<S.vr.n
 · have z_vr:(16:Int)<(S.vr.n:Int):=by omega
   have EV:=Lib.hid (NO.out (fun g=>by have:=g.zvr;rw [LE_vr.out] at this;omega));clear c_vr
   go_enter Tryz.func88,Tryz.ntmps88
   go_wp2;go_ret;exact ⟨by rw [EV.out];rfl,B0.out⟩
 have z_vr:¬(16:Int)<(S.vr.n:Int):=by omega
 by_cases c_ir:48<S.ir.n
 · have z_ir:(48:Int)<(S.ir.n:Int):=by omega
   have EV:=Lib.hid (NO.out (fun g=>by have:=g.zir;rw [LE_ir.out] at this;omega));clear c_ir
   go_enter Tryz.func88,Tryz.ntmps88
   go_wp2;go_ret;exact ⟨by rw [EV.out];rfl,B0.out⟩
 have z_ir:¬(48:Int)<(S.ir.n:Int):=by omega
 have SZ:=Lib.hid (show N.devices.length≤8∧N.ports.length≤40∧N.links.length≤20∧N.domains.length≤48∧N.statics.length≤64∧N.floods.length≤48∧N.vrfs.length≤16∧N.irbs.length≤48 from ⟨by rw [LE_dv.out];omega,by rw [LE_pt.out];omega,by rw [LE_lk.out];omega,by rw [LE_dm.out];omega,by rw [LE_st.out];omega,by rw [LE_fl.out];omega,by rw [LE_vr.out];omega,by rw [LE_ir.out];omega⟩);clear c_dv c_pt c_lk c_dm c_st c_fl c_vr c_ir
 cases v1
 · have EV:=Lib.hid (NO.out (F1.out rfl))
   go_enter Tryz.func88,Tryz.ntmps88
   go_wp2_with (first
    |(go_at_call 142;(with_reducible refine (D1.out _ B0.out).mono ?_);rintro e w1_ ⟨rfl,b1_⟩;have Y1:=Lib.hid (b1_);obtain ⟨⟨f0,f1,f2,f3,f4,f5,f6,f7⟩,hB⟩:=KN.out w1_ Y1.out;have X1:=Lib.hid hB;clear hB b1_))
   go_ret;exact ⟨by rw [EV.out];rfl,X1.out⟩
 cases v2
 · have EV:=Lib.hid (NO.out (F2.out rfl))
   go_enter Tryz.func88,Tryz.ntmps88
   go_wp2_with (first
    |(go_at_call 142;(with_reducible refine (D1.out _ B0.out).mono ?_);rintro e w1_ ⟨rfl,b1_⟩;have Y1:=Lib.hid (b1_);obtain ⟨⟨f0,f1,f2,f3,f4,f5,f6,f7⟩,hB⟩:=KN.out w1_ Y1.out;have X1:=Lib.hid hB;clear hB b1_)
    |(go_at_call 143;(with_reducible refine (D2.out _ X1.out).mono ?_);rintro e w2_ ⟨rfl,b2_⟩;have Y2:=Lib.hid (vAa Y1.out b2_);obtain ⟨⟨f0,f1,f2,f3,f4,f5,f6,f7⟩,hB⟩:=KN.out w2_ Y2.out;have X2:=Lib.hid hB;clear hB b2_))
   go_ret;exact ⟨by rw [EV.out];rfl,X2.out⟩
 cases v3
 · have EV:=Lib.hid (NO.out (F3.out rfl))
   go_enter Tryz.func88,Tryz.ntmps88
   go_wp2_with (first
    |(go_at_call 142;(with_reducible refine (D1.out _ B0.out).mono ?_);rintro e w1_ ⟨rfl,b1_⟩;have Y1:=Lib.hid (b1_);obtain ⟨⟨f0,f1,f2,f3,f4,f5,f6,f7⟩,hB⟩:=KN.out w1_ Y1.out;have X1:=Lib.hid hB;clear hB b1_)
    |(go_at_call 143;(with_reducible refine (D2.out _ X1.out).mono ?_);rintro e w2_ ⟨rfl,b2_⟩;have Y2:=Lib.hid (vAa Y1.out b2_);obtain ⟨⟨f0,f1,f2,f3,f4,f5,f6,f7⟩,hB⟩:=KN.out w2_ Y2.out;have X2:=Lib.hid hB;clear hB b2_)
    |(go_at_call 144;(with_reducible refine (D3.out _ X2.out).mono ?_);rintro e w3_ ⟨rfl,b3_⟩;have Y3:=Lib.hid (vAa Y2.out b3_);obtain ⟨⟨f0,f1,f2,f3,f4,f5,f6,f7⟩,hB⟩:=KN.out w3_ Y3.out;have X3:=Lib.hid hB;clear hB b3_))
   go_ret;exact ⟨by rw [EV.out];rfl,X3.out⟩
 cases v4
 · have EV:=Lib.hid (NO.out (F4.out rfl))
   go_enter Tryz.func88,Tryz.ntmps88
   go_wp2_with (first
    |(go_at_call 142;(with_reducible refine (D1.out _ B0.out).mono ?_);rintro e w1_ ⟨rfl,b1_⟩;have Y1:=Lib.hid (b1_);obtain ⟨⟨f0,f1,f2,f3,f4,f5,f6,f7⟩,hB⟩:=KN.out w1_ Y1.out;have X1:=Lib.hid hB;clear hB b1_)
    |(go_at_call 143;(with_reducible refine (D2.out _ X1.out).mono ?_);rintro e w2_ ⟨rfl,b2_⟩;have Y2:=Lib.hid (vAa Y1.out b2_);obtain ⟨⟨f0,f1,f2,f3,f4,f5,f6,f7⟩,hB⟩:=KN.out w2_ Y2.out;have X2:=Lib.hid hB;clear hB b2_)
    |(go_at_call 144;(with_reducible refine (D3.out _ X2.out).mono ?_);rintro e w3_ ⟨rfl,b3_⟩;have Y3:=Lib.hid (vAa Y2.out b3_);obtain ⟨⟨f0,f1,f2,f3,f4,f5,f6,f7⟩,hB⟩:=KN.out w3_ Y3.out;have X3:=Lib.hid hB;clear hB b3_)
    |(go_at_call 145;(with_reducible refine (D4.out _ X3.out).mono ?_);rintro e w4_ ⟨rfl,b4_⟩;have Y4:=Lib.hid (vAa Y3.out b4_);obtain ⟨⟨f0,f1,f2,f3,f4,f5,f6,f7⟩,hB⟩:=KN.out w4_ Y4.out;have X4:=Lib.hid hB;clear hB b4_))
   go_ret;exact ⟨by rw [EV.out];rfl,X4.out⟩
 have EV:=Lib.hid (YES.out ⟨SZ.out.1,SZ.out.2.1,SZ.out.2.2.1,SZ.out.2.2.2.1,SZ.out.2.2.2.2.1,SZ.out.2.2.2.2.2.1,SZ.out.2.2.2.2.2.2.1,SZ.out.2.2.2.2.2.2.2,T1.out rfl,T2.out rfl,T3.out rfl,T4.out rfl⟩)
 go_enter Tryz.func88,Tryz.ntmps88
 go_wp2_with (first
  |(go_at_call 142;(with_reducible refine (D1.out _ B0.out).mono ?_);rintro e w1_ ⟨rfl,b1_⟩;have Y1:=Lib.hid (b1_);obtain ⟨⟨f0,f1,f2,f3,f4,f5,f6,f7⟩,hB⟩:=KN.out w1_ Y1.out;have X1:=Lib.hid hB;clear hB b1_)
  |(go_at_call 143;(with_reducible refine (D2.out _ X1.out).mono ?_);rintro e w2_ ⟨rfl,b2_⟩;have Y2:=Lib.hid (vAa Y1.out b2_);obtain ⟨⟨f0,f1,f2,f3,f4,f5,f6,f7⟩,hB⟩:=KN.out w2_ Y2.out;have X2:=Lib.hid hB;clear hB b2_)
  |(go_at_call 144;(with_reducible refine (D3.out _ X2.out).mono ?_);rintro e w3_ ⟨rfl,b3_⟩;have Y3:=Lib.hid (vAa Y2.out b3_);obtain ⟨⟨f0,f1,f2,f3,f4,f5,f6,f7⟩,hB⟩:=KN.out w3_ Y3.out;have X3:=Lib.hid hB;clear hB b3_)
  |(go_at_call 145;(with_reducible refine (D4.out _ X3.out).mono ?_);rintro e w4_ ⟨rfl,b4_⟩;have Y4:=Lib.hid (vAa Y3.out b4_);obtain ⟨⟨f0,f1,f2,f3,f4,f5,f6,f7⟩,hB⟩:=KN.out w4_ Y4.out;have X4:=Lib.hid hB;clear hB b4_))
 go_ret;exact ⟨by rw [EV.out];rfl,X4.out⟩
def otK:List LinkV→Int→Int
 | [],_=> -1
 |l :: r,p=>if l.a=p then l.b else if l.b=p then l.a else otK r p
def otF (N:NV) (p:Int):Int:=otK N.links p
theorem otK_fst (p:Int):∀xs:List LinkV,(∃j,j<xs.length∧((xs.getD j LinkV.zero).a=p∨(xs.getD j LinkV.zero).b=p)∧otK xs p=if (xs.getD j LinkV.zero).a=p then (xs.getD j LinkV.zero).b else (xs.getD j LinkV.zero).a)∨(otK xs p= -1∧∀j,j<xs.length→(xs.getD j LinkV.zero).a≠p∧(xs.getD j LinkV.zero).b≠p)
 | []=>.inr ⟨rfl,fun j hj=>absurd hj (by simp)⟩
 |l :: r=>by
  by_cases ha:l.a=p
  · exact .inl ⟨0,by simp,.inl ha,by rw [otK,if_pos ha];simp [ha]⟩
  by_cases hb:l.b=p
  · exact .inl ⟨0,by simp,.inr hb,by rw [otK,if_neg ha,if_pos hb];simp [ha]⟩
  rcases otK_fst p r with ⟨j,h1,h2,h3⟩|⟨h1,h2⟩
  · exact .inl ⟨j+1,by simpa using h1,by simpa using h2,by rw [otK,if_neg ha,if_neg hb,h3];simp⟩
  · refine .inr ⟨by rw [otK,if_neg ha,if_neg hb,h1],fun j hj=>?_⟩
    match j with
    |0=>exact ⟨by simpa using ha,by simpa using hb⟩
    |j+1=>simpa using h2 j (by simpa using hj)
def ptA (N:NV) (p:Int):PortV:=N.ports.getD p.toNat PortV.zero
def lkO (N:NV) (p:Int):Int:=if (N.links.getD (ptA N p).link.toNat LinkV.zero).a=p then (N.links.getD (ptA N p).link.toNat LinkV.zero).b else (N.links.getD (ptA N p).link.toNat LinkV.zero).a
def otC (N:NV) (p:Int):Int:=if plB p (N.ports.length:Int)=true∧(ptA N p).link≠-1 then lkO N p else -1
theorem vHo {p:Int} {n:Nat} (h:plB p (n:Int)=true):∃x:Nat,p=(x:Int)∧x<n:=by
 obtain ⟨a,b⟩:=(vBb _ _).1 h;exact ⟨p.toNat,by omega,by omega⟩
theorem vGz {N:NV} (hn:NetOk N) {j:Nat} (hj:j<N.links.length) {p:Int} (h:(N.links.getD j LinkV.zero).a=p∨(N.links.getD j LinkV.zero).b=p):plB p (N.ports.length:Int)=true∧(ptA N p).link=(j:Int):=by
 have L:=hn.lk j hj
 rcases h with h|h
 · exact ⟨h▸L.a,h▸L.la⟩
 · exact ⟨h▸L.b,h▸L.lb⟩
theorem ot_eq {N:NV} (hn:NetOk N) (p:Int):otF N p=otC N p:=by
 rcases otK_fst p N.links with ⟨j,h1,h2,h3⟩|⟨h1,h2⟩
 · obtain ⟨e1,e2⟩:=vGz hn h1 h2
   unfold otC lkO;rw [if_pos ⟨e1,by rw [e2];omega⟩,e2,show ((j:Int)).toNat=j from rfl];exact h3
 · unfold otC
   rw [if_neg,show otF N p= -1 from h1];rintro ⟨e1,e2⟩;obtain ⟨x,rfl,hx⟩:=vHo e1
   rcases (hn.pt x hx).link with g|⟨g1,g2⟩
   · exact e2 g
   · obtain ⟨y,hy,hyl⟩:=vHo g1
     rw [show (N.ports.getD x PortV.zero).link.toNat=y by rw [hy];rfl] at g2
     have:=h2 y hyl
     rcases g2 with g|g
     · exact this.1 g
     · exact this.2 g
theorem ot_ok {N:NV} (hn:NetOk N) {p:Int} (h:otC N p≠-1):plB p (N.ports.length:Int)=true∧plB (otC N p) (N.ports.length:Int)=true∧otC N (otC N p)=p∧(ptA N (otC N p)).dev≠(ptA N p).dev∧∃j,j<N.links.length∧(ptA N p).link=(j:Int)∧((N.links.getD j LinkV.zero).a=p∧(N.links.getD j LinkV.zero).b=otC N p∨(N.links.getD j LinkV.zero).a=otC N p∧(N.links.getD j LinkV.zero).b=p):=by
 obtain ⟨q,hq⟩:∃q,otF N p=q:=⟨_,rfl⟩;rw [show otC N p=q from (ot_eq hn p).symm.trans hq] at h ⊢
 rcases otK_fst p N.links with ⟨j,h1,h2,h3⟩|⟨h1,h2⟩
 · have L:=hn.lk j h1
   obtain ⟨e1,e2⟩:=vGz hn h1 h2;have h3:q=_:=hq.symm.trans h3
   by_cases ha:(N.links.getD j LinkV.zero).a=p
   · rw [if_pos ha] at h3
     obtain ⟨q1,q2⟩:=vGz hn h1 (.inr h3.symm);refine ⟨e1,q1,?_,?_,j,h1,e2,.inl ⟨ha,h3.symm⟩⟩
     · unfold otC lkO
       rw [if_pos ⟨q1,by rw [q2];omega⟩,q2,show ((j:Int)).toNat=j from rfl,if_neg,ha];intro g
       have:=L.dev
       rw [show (N.links.getD j LinkV.zero).b=(N.links.getD j LinkV.zero).a from h3.symm.trans g.symm] at this;exact this rfl
     · have:=L.dev
       rw [ha,←h3] at this
       exact fun g=>this g.symm
   · rw [if_neg ha] at h3
     have hb:(N.links.getD j LinkV.zero).b=p:=h2.resolve_left ha;obtain ⟨q1,q2⟩:=vGz hn h1 (.inl h3.symm);refine ⟨e1,q1,?_,?_,j,h1,e2,.inr ⟨h3.symm,hb⟩⟩
     · unfold otC lkO
       rw [if_pos ⟨q1,by rw [q2];omega⟩,q2,show ((j:Int)).toNat=j from rfl,if_pos h3.symm,hb]
     · have:=L.dev
       rw [hb,←h3] at this;exact this
 · exact absurd (hq.symm.trans (show otF N p= -1 from h1)) h
def acF (P Q:PortV) (v:Int):Int:=if v≠0∧v=P.native then Q.native else if memB P.tagged v=true∧memB Q.tagged v=true then v else 0
def crT (N:NV) (p v:Int):Int:=if otC N p= -1 then 0 else acF (ptA N p) (ptA N (otC N p)) v
theorem cr_no {N:NV} {p v:Int} (h:crT N p v≠0):otC N p≠-1:=fun g=>h (by unfold crT;rw [if_pos g])
theorem cr_ac {N:NV} {p v:Int} (h:otC N p≠-1):crT N p v=acF (ptA N p) (ptA N (otC N p)) v:=by unfold crT;rw [if_neg h]
def TyI (w:World) (b:Nat):Prop:=∃cur T,w.heap[b]?=some (.cells cur T)∧(T=3∨T=33)
theorem TyI.lt {w:World} {b:Nat} (h:TyI w b):b<w.heap.size:=by
 obtain ⟨cur,T,h,_⟩:=h
 rcases Nat.lt_or_ge b w.heap.size with h'|h'
 · exact h'
 · rw [Array.getElem?_eq_none h'] at h;cases h
theorem TyI.same {w w':World} {b:Nat} (h:TyI w b) (e:w'.heap[b]?=w.heap[b]?):TyI w' b:=by
 obtain ⟨cur,T,h,g⟩:=h;exact ⟨cur,T,e.trans h,g⟩
theorem TyI.live {w:World} {b:Nat} (h:TyI w b) (o:Nat):w.frozen? ⟨b,o,none⟩=false:=by
 obtain ⟨cur,T,h,_⟩:=h;simp [World.frozen?,h]
open Go.Lib (byteCells)
def u8 (x:Int):UInt8:=UInt8.ofNat x.toNat
section
variable {w w':World} {A:Option Addr} {n c:Nat} {l:List UInt8}
end
open Go.Lib (byteCells)
open Go.Lib (byteCells)
open Go.Lib (byteCells)
open Go.Lib (byteCells)
open Go.Lib (byteCells)
section
variable {w w':World} {q:Nat} {v0 v1 v2 v3:Value}
end
end Go.Proofs.YtnpembgchmmbjaaGreat
