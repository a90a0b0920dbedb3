import Derived.Test.YtgnkpbgaoiaefaaGreatPb37
import Derived.Test.YtgnkpbgaoiaefaaGreatPb04
set_option maxRecDepth 100000
set_option maxHeartbeats 40000000
namespace Go.Proofs.YtgnkpbgaoiaefaaGreat
open Go.Lib (hid)
open Go.RowKit
def NineI (w:World) (q:Nat) (zs:List Int):Prop:=q<w.heap.size∧∀j,j<9→w.cell? ⟨q,j,none⟩=some (.int .i64 (zs.getD j 0))
theorem nine_new (w:World) (T:TypeId) (z0 z1 z2 z3 z4 z5 z6 z7 z8:Int) {q:Nat} (hq:w.heap.size=q):NineI (w.alloc (.cells #[.int .i64 z0,.int .i64 z1,.int .i64 z2,.int .i64 z3,.int .i64 z4,.int .i64 z5,.int .i64 z6,.int .i64 z7,.int .i64 z8] T)) q [z0,z1,z2,z3,z4,z5,z6,z7,z8]:=by
 subst hq;refine ⟨by simp,fun j hj=>?_⟩
 match j,hj with
 |0,_|1,_|2,_|3,_|4,_|5,_|6,_|7,_|8,_=>simp
 |j+9,h=>exact absurd h (by omega)
def nineZ (L:LV):List Int:=[((str L.dev).size:Int),((str L.port).size:Int),((str L.peer).size:Int),((str L.far).size:Int),((str L.name).size:Int),(L.tagged.length:Int),(L.imports.length:Int),(L.exports.length:Int),(L.addrs.length:Int)]
structure LvSm (L:LV):Prop where
 txt:L.dev.length≤300∧L.port.length≤300∧L.peer.length≤300∧L.far.length≤300∧L.name.length≤300
 lst:L.tagged.length≤300∧L.imports.length≤300∧L.exports.length≤300∧L.addrs.length≤300
theorem nine_sm {L:LV} (h:∀j,j<9→(nineZ L).getD j 0≤300):LvSm L:=by
 have h0:=h 0 (by omega);have h1:=h 1 (by omega);have h2:=h 2 (by omega);have h3:=h 3 (by omega);have h4:=h 4 (by omega);have h5:=h 5 (by omega);have h6:=h 6 (by omega);have h7:=h 7 (by omega);have h8:=h 8 (by omega);simp [nineZ,vBe] at h0 h1 h2 h3 h4 h5 h6 h7 h8;exact ⟨⟨by omega,by omega,by omega,by omega,by omega⟩,⟨by omega,by omega,by omega,by omega⟩⟩
def GotSm (n:Nat) (xs:List LV) (w:World) (e:Ending) (w':World):Prop:=∃g,e=.returned (.bool g)∧(g=false→n≤400∧∀k,k<n→LvSm (xs.getD k LV.zero))∧Below w.heap.size w w'
theorem great12_any (A:Option Addr) (n c:Nat) (xs:List LV) (w:World) (h:RSl lineR w (vAs w) A n c xs):
 Calls Tryz.prog 12 #[.slice A n c] w fun e w'=>GotSm n xs w e w':=by
 unfold GotSm;have hle:=h.le;have hcap:=h.cap;have H:=hid h;clear h
 by_cases h4:400<n
 · have i0:(400:Int)<(n:Int):=by omega
   go_enter Tryz.func12,Tryz.ntmps12
   go_wp2;go_ret;exact ⟨true,rfl,fun e=>(by cases e),Below.refl _ _⟩
 have i0:¬(400:Int)<(n:Int):=by omega
 go_enter Tryz.func12,Tryz.ntmps12
 go_wp2
 go_loopw [3,4] (fun s i wr=>∃(k:Nat) (z:Int),i=.int .i64 k∧s=.int .i64 z∧k≤n∧(∀j,j<k→LvSm (xs.getD j LV.zero))∧Below w.heap.size w wr) (fun _ i _=>match i with| .int _ x=>(n - x).toNat|_=>0)
 case atStart=>exact ⟨0,0,rfl,rfl,by omega,fun j h=>absurd h (by omega),Below.refl _ _⟩
 case round=>
  obtain ⟨k,z,rfl,rfl,hk,hsm,hb⟩:=hrel;have W:=hid hb;have SM:=hid hsm;clear hb hsm
  by_cases hlt:k<n
  · obtain ⟨b0,o0,s1,s2,s3,s4,rfl,hb0,l0,r0⟩:=lines_at H.out k hlt
    obtain ⟨L,hL⟩:∃L,xs.getD k LV.zero=L:=⟨_,rfl⟩;rw [hL] at r0;have R0:=vAb r0 (W.out.block b0 hb0);have c2:wr.cell? ⟨b0,o0+k * 17+2,none⟩=some (.string (str L.dev)):=R0 2 _ rfl;have c3:wr.cell? ⟨b0,o0+k * 17+3,none⟩=some (.string (str L.port)):=R0 3 _ rfl;have c4:wr.cell? ⟨b0,o0+k * 17+4,none⟩=some (.string (str L.peer)):=R0 4 _ rfl;have c5:wr.cell? ⟨b0,o0+k * 17+5,none⟩=some (.string (str L.far)):=R0 5 _ rfl
    have c6:wr.cell? ⟨b0,o0+k * 17+6,none⟩=some (.string (str L.name)):=R0 6 _ rfl;have c13:wr.cell? ⟨b0,o0+k * 17+13,none⟩=some (.slice s1.A s1.n s1.c):=R0 13 _ rfl;have c14:wr.cell? ⟨b0,o0+k * 17+14,none⟩=some (.slice s2.A s2.n s2.c):=R0 14 _ rfl;have c15:wr.cell? ⟨b0,o0+k * 17+15,none⟩=some (.slice s3.A s3.n s3.c):=R0 15 _ rfl;have c16:wr.cell? ⟨b0,o0+k * 17+16,none⟩=some (.slice s4.A s4.n s4.c):=R0 16 _ rfl
    have i1:(k:Int)<(n:Int):=by omega
    have LN:=hid (show nineZ L=([((str L.dev).size:Int),((str L.port).size:Int),((str L.peer).size:Int),((str L.far).size:Int),((str L.name).size:Int),(s1.n:Int),(s2.n:Int),(s3.n:Int),(s4.n:Int)]:List Int) from by rw [hL] at l0;unfold nineZ;rw [l0.1.len,l0.2.1.len,l0.2.2.1.len,l0.2.2.2.len]);have HL:=hid hL;clear l0 r0 R0 hL
    have KP:=hid (show ∀wx,Below wr.heap.size wr wx→wx.cell? ⟨b0,o0+k * 17+2,none⟩=some (.string (str L.dev))∧wx.cell? ⟨b0,o0+k * 17+3,none⟩=some (.string (str L.port))∧wx.cell? ⟨b0,o0+k * 17+4,none⟩=some (.string (str L.peer))∧wx.cell? ⟨b0,o0+k * 17+5,none⟩=some (.string (str L.far))∧wx.cell? ⟨b0,o0+k * 17+6,none⟩=some (.string (str L.name))∧wx.cell? ⟨b0,o0+k * 17+13,none⟩=some (.slice s1.A s1.n s1.c)∧wx.cell? ⟨b0,o0+k * 17+14,none⟩=some (.slice s2.A s2.n s2.c)∧wx.cell? ⟨b0,o0+k * 17+15,none⟩=some (.slice s3.A s3.n s3.c)∧wx.cell? ⟨b0,o0+k * 17+16,none⟩=some (.slice s4.A s4.n s4.c) from
     fun wx hx=>by
      have hbr:b0<wr.heap.size:=Nat.lt_of_lt_of_le hb0 W.out.size
      exact ⟨(hx.cell (p:=⟨b0,_,none⟩) hbr).trans c2,(hx.cell (p:=⟨b0,_,none⟩) hbr).trans c3,(hx.cell (p:=⟨b0,_,none⟩) hbr).trans c4,(hx.cell (p:=⟨b0,_,none⟩) hbr).trans c5,(hx.cell (p:=⟨b0,_,none⟩) hbr).trans c6,(hx.cell (p:=⟨b0,_,none⟩) hbr).trans c13,(hx.cell (p:=⟨b0,_,none⟩) hbr).trans c14,(hx.cell (p:=⟨b0,_,none⟩) hbr).trans c15,(hx.cell (p:=⟨b0,_,none⟩) hbr).trans c16⟩)
    clear c2 c3 c4 c5 c6 c13 c14 c15 c16;go_wp2;refine wp_region_makes (fun f wx=>Below wr.heap.size wr wx∧(f=true→NineI wx wr.heap.size (nineZ L))∧(f=false→wx.heap.size=wr.heap.size)) 54 (by kernel_rfl) (by kernel_rfl) (by decide) ⟨(Below.refl _ _).drew,fun h=>(by cases h),fun _=>rfl⟩ ?_
    repeat
     first
      |(refine SeqF.run ?_ rfl (by decide) (fun f wx hx=>?_) ?_
        rotate_left
        · obtain ⟨c2,c3,c4,c5,c6,c13,c14,c15,c16⟩:=KP.out wx hx.1
          go_simp
          refine StepRun.val ?_;exact hx
        simp only [Act.put,List.setIfInBounds_toArray,List.set_cons_zero,List.set_cons_succ])
    refine SeqF.make (.slice (some ⟨wr.heap.size,0,none⟩) 9 9) rfl rfl (fun wx hx=>?_) ?_
    · have hs:=hx.2.2 rfl
      go_simp
      exact ⟨rfl,hx.1.alloc (by omega) _,by rw [LN.out];exact nine_new wx _ _ _ _ _ _ _ _ _ _ hs⟩
    simp only [Act.put,List.setIfInBounds_toArray,List.set_cons_zero,List.set_cons_succ]
    repeat
     first
      |(refine SeqF.run ?_ rfl (by decide) (fun f wx hx=>?_) ?_
        rotate_left
        · obtain ⟨c2,c3,c4,c5,c6,c13,c14,c15,c16⟩:=KP.out wx hx.1
          go_simp
          refine StepRun.val ?_;exact hx
        simp only [Act.put,List.setIfInBounds_toArray,List.set_cons_zero,List.set_cons_succ])
    refine SeqF.last (fun w5 h5=>?_);have W5:=hid (vAa W.out h5.1);have NI:=hid (h5.2.1 rfl);clear h5;go_wp2
    go_loopw [3,72] (fun s j wq=>∃(jn:Nat) (z2:Int),j=.int .i64 jn∧s=.int .i64 z2∧jn≤9∧(∀i,i<jn→(nineZ L).getD i 0≤300)∧wq=w5) (fun _ j _=>match j with| .int _ x=>(9 - x).toNat|_=>0)
    case atStart=>exact ⟨0,z,rfl,rfl,by omega,fun i h=>absurd h (by omega),rfl⟩
    case round=>
     obtain ⟨jn,z2,rfl,rfl,hj,hle9,hwq⟩:=hrel;subst hwq;have L9:=hid hle9;clear hle9
     by_cases hj9:jn<9
     · have hz:=NI.out.2 jn hj9
       obtain ⟨zj,hzj⟩:∃zj,(nineZ L).getD jn 0=zj:=⟨_,rfl⟩;rw [hzj] at hz;have ZJ:=hid hzj;clear hzj
       have i2:(jn:Int)<9:=by omega
       by_cases h3:300<zj
       · go_wp2
         go_ret;exact ⟨true,rfl,fun e=>(by cases e),W5.out⟩
       · go_wp2
         go_roundw
         case rel=>exact ⟨jn+1,_,by simp,rfl,by omega,fun i hi=>(by
          by_cases e:i=jn
          · subst e;rw [ZJ.out];omega
          · exact L9.out i (by omega)),trivial⟩
         case measure=>simp only [];omega
     · have i2:¬(jn:Int)<9:=by omega
       go_wp2
       go_roundw
       case rel=>exact ⟨k+1,z2,by simp,rfl,by omega,fun j hj2=>(by
        by_cases e:j=k
        · subst e;rw [HL.out];exact nine_sm (fun i hi=>L9.out i (by omega))
        · exact SM.out j (by omega)),W5.out⟩
       case measure=>simp only [];omega
  · go_wp2
    go_ret;exact ⟨_,rfl,fun _=>⟨by omega,fun j hj=>SM.out j (by omega)⟩,W.out⟩
open Go
section
variable {P:Program} {ops:Array Oper} {Q:Exit→Act→World→Prop}
def leftI (d:Nat→Bool):Nat→Nat
 |0=>0
 |n+1=>leftI d n+if d n then 0 else 1
theorem leftI_set (d:Nat→Bool) (j:Nat) (hj:d j=false):∀n,leftI (fun i=>i == j || d i) n+(if j<n then 1 else 0)=leftI d n
 |0=>by simp [leftI]
 |n+1=>by
  have ih:=leftI_set d j hj n
  change leftI (fun i=>i == j || d i) n+(if (n == j || d n)=true then 0 else 1)+(if j<n+1 then 1 else 0)=leftI d n+(if d n=true then 0 else 1)
  by_cases h:n=j
  · subst h
    rw [if_neg (Nat.lt_irrefl n)] at ih;rw [hj,if_pos (by simp),if_pos (Nat.lt_succ_self n),if_neg (by simp)];omega
  · have e:(n == j)=false:=by simpa using h
    rw [e,Bool.false_or]
    by_cases h2:j<n
    · rw [if_pos h2] at ih
      rw [if_pos (show j<n+1 by omega)];omega
    · rw [if_neg h2] at ih
      rw [if_neg (show ¬j<n+1 by omega)];omega
theorem leftI_zero (d:Nat→Bool):∀n,leftI d n=0→∀j,j<n→d j=true
 |0,_,j,hj=>absurd hj (by omega)
 |n+1,h,j,hj=>by
  unfold leftI at h
  by_cases e:j=n
  · subst e
    cases hd:d j with
    |true=>rfl
    |false=>rw [hd] at h;simp at h
  · exact leftI_zero d n (by omega) j (by omega)
def RunI (P:Program) (K:Value→World→Prop):Result Next→Prop
 | .ok (.value u) w'=>K u w'
 | .ok .skip w'=>K undef w'
 | .ok (.enter f args) w'=>Calls P f args w' fun e w''=>∃v,e=.returned v∧K v w''
 |_=>False
def StepI (P:Program) (ops:Array Oper) (o:Oper) (a:Act) (w:World) (K:Value→World→Prop):Prop:=
 (Region.wanted o (yielded ops a.tmps)=true∧RunI P K ((execOp a.eval o).run P w))∨(Region.wanted o (yielded ops a.tmps)=false∧K undef w)
theorem StepI.wpOp {i:Nat} {o:Oper} {a:Act} (hi:ops[i]?=some o) {w:World} {K:Act→World→Prop} (h:StepI P ops o a w (fun v w'=>K (a.put o.dst v) w')):wpOp P ops Q i K a w:=by
 unfold Go.wpOp;simp only [hi]
 rcases h with ⟨hw,hr⟩|⟨hw,hr⟩
 · simp only [hw,if_true]
   left
   unfold Oper.wp;generalize (execOp a.eval o).run P w=r at hr ⊢
   cases r with
   |ok n w'=>
    cases n with
    |value u=>exact hr
    |skip=>exact hr
    |enter f args=>exact Calls.mono (show Calls P f args w' _ from hr) fun e w'' ⟨v,he,hs⟩=>by subst he;exact hs
    |_=>exact (show False from hr).elim
   |halt x w'=>exact (show False from hr).elim
 · simp only [hw,Bool.false_eq_true,if_false]
   exact hr
theorem ready_nilI (hck:vDo .any ops=true) {listed:Array Bool} (hl:listed.size=ops.size) (h:Region.ready .any ops listed=[]):∀j,j<ops.size→listed.getD j false=true:=by
 unfold vDo at hck;simp only [Bool.and_eq_true,List.all_eq_true,List.mem_range] at hck;intro j
 induction j using Nat.strongRecOn with
 |ind j ih=>
  intro hj
  cases hd:listed.getD j false with
  |true=>rfl
  |false=>
   have hr:j∈Region.ready .any ops (upto ops.size j):=by simpa using (hck.2 j hj).2
   obtain ⟨_,o,ho,ha⟩:=mem_ready.1 hr
   have hin:j∈Region.ready .any ops listed:=mem_ready.2 ⟨by
    have hjl:j<listed.size:=by omega
    simp [hjl] at hd ⊢
    exact hd,o,ho,fun e he hb=>by
    have h1:=ha e he hb
    have h2:e.on<j:=by
     unfold upto at h1
     by_cases g:e.on<ops.size
     · simpa [g] using h1
     · simp [g] at h1
    exact ih e.on h2 (by omega)⟩
   rw [h] at hin
   cases hin
theorem wpAny_inv (Inv:(Nat→Bool)→Act→World→Prop) (hck:vDo .any ops=true)
 (hstep:∀d a w j o,Inv d a w→ops[j]?=some o→d j=false→(∀i,(o.after.any fun e=>e.on == i && Region.binds .any e)=true→d i=true)→StepI P ops o a w (fun v w'=>Inv (fun i=>i == j || d i) (a.put o.dst v) w'))
 (hend:∀d a w,Inv d a w→(∀j,j<ops.size→d j=true)→Q .normal a w):
 ∀(fuel:Nat) (listed:Array Bool) (a:Act) (w:World),listed.size=ops.size→leftI (fun i=>listed.getD i false) ops.size≤fuel→Inv (fun i=>listed.getD i false) a w→wpAny P .any ops Q fuel listed a w:=by
 intro fuel
 induction fuel with
 |zero=>
  intro listed a w hs hf hI;have hall:=leftI_zero _ _ (Nat.le_zero.1 hf);refine ⟨?_,hend _ _ _ hI hall⟩;rw [List.eq_nil_iff_forall_not_mem];intro j hj;obtain ⟨h0,o,ho,_⟩:=mem_ready.1 hj;have hlt:=(Array.getElem?_eq_some_iff.1 ho).1
  have:=hall j hlt
  have hjl:j<listed.size:=by omega
  simp [hjl] at this h0;rw [this] at h0
  cases h0
 |succ fuel ih=>
  intro listed a w hs hf hI;refine ⟨fun hr=>hend _ _ _ hI (ready_nilI hck hs hr),fun j hj=>?_⟩;obtain ⟨h0,o,ho,ha⟩:=mem_ready.1 hj;have hlt:=(Array.getElem?_eq_some_iff.1 ho).1
  have hjl:j<listed.size:=by omega
  have hd:(fun i=>listed.getD i false) j=false:=by
   simp [hjl] at h0 ⊢;exact h0
  have hfn:(fun i=>(listed.setIfInBounds j true).getD i false)=(fun i=>i == j || listed.getD i false):=by
   funext i
   by_cases e:i=j
   · subst e;simp [hjl]
   · rw [getD_set_ne false (fun g=>e g.symm)]
     have:(i == j)=false:=by simpa using e
     rw [this]
     rfl
  refine StepI.wpOp ho ?_
  have hst:=hstep _ a w j o hI ho hd (fun i hi=>by
   obtain ⟨e,he,hb⟩:=Array.any_eq_true'.1 hi;simp only [Bool.and_eq_true,beq_iff_eq] at hb;rw [←hb.1]
   exact ha e he hb.2)
  have hK:∀v w',Inv (fun i=>i == j || listed.getD i false) (a.put o.dst v) w'→wpAny P .any ops Q fuel (listed.setIfInBounds j true) (a.put o.dst v) w':=fun v w' h=>by
   refine ih _ _ _ (by simpa using hs) ?_ (by rw [hfn];exact h);rw [hfn]
   have:=leftI_set (fun i=>listed.getD i false) j hd ops.size
   rw [if_pos hlt] at this;omega
  rcases hst with ⟨hw,hr⟩|⟨hw,hr⟩
  · refine .inl ⟨hw,?_⟩
    generalize (execOp a.eval o).run P w=r at hr ⊢
    cases r with
    |ok n w'=>
     cases n with
     |value u=>exact hK _ _ hr
     |skip=>exact hK _ _ hr
     |enter f args=>exact Calls.mono (show Calls P f args w' _ from hr) fun e w'' ⟨v,he,hs⟩=>⟨v,he,hK _ _ hs⟩
     |_=>exact (show False from hr).elim
    |halt x w'=>exact (show False from hr).elim
  · exact .inr ⟨hw,hK _ _ hr⟩
theorem leftI_none:∀n,leftI (fun _=>false) n=n
 |0=>rfl
 |n+1=>by unfold leftI;rw [leftI_none n];simp
theorem vDx {l:List Oper} {id:Nat} {a:Act} {w:World} (Inv:(Nat→Bool)→Act→World→Prop) (hm:P.follows .mixedOrders=true) (hck:vDo .any l.toArray=true) (h0:Inv (fun _=>false) a w.drew)
 (hstep:∀d a w j o,Inv d a w→l[j]?=some o→d j=false→(∀i,(o.after.any fun e=>e.on == i && Region.binds .any e)=true→d i=true)→StepI P l.toArray o a w (fun v w'=>Inv (fun i=>i == j || d i) (a.put o.dst v) w'))
 (hend:∀d a w,Inv d a w→(∀j,j<l.length→d j=true)→Q .normal a w):(Code.region id l.toArray true).wp P Q a w:=by
 have hfn:(fun i=>(Array.replicate l.toArray.size false).getD i false)=(fun _=>false):=by
  funext i
  by_cases h:i<l.length<;>simp [h]
 refine wp_region_any hm (wpAny_inv Inv hck (fun d a w j o hI ho hd hdep=>hstep d a w j o hI (by simpa using ho) hd hdep) (fun d a w hI hall=>hend d a w hI (by simpa using hall)) _ _ _ _ (by simp) (by rw [hfn,leftI_none];exact Nat.le_refl _) (by rw [hfn];exact h0))
end
theorem rwords_any (L:LV) (s1 s2 s3 s4:SlV) (w:World) (h:LRead w L s1 s2 s3 s4) (hw:LvW L) (hs:LvSm L) (hk:L.kind=1∨L.kind=2):Calls Tryz.prog 81 #[vAw L s1 s2 s3 s4] w (GotWs (wrW L) w):=by
 rcases hk with hk|hk
 · exact rwords1 L s1 s2 s3 s4 w h hw hk
 · by_cases ht:L.tagged=[]
   · exact rwords2 L s1 s2 s3 s4 w h hw hk ht
   · by_cases hv:L.vlan=0
     · exact rwords3 L s1 s2 s3 s4 w h hw hk ht (by have:=hs.lst.1;omega) hv
     · exact rwords4 L s1 s2 s3 s4 w h hw hk ht (by have:=hs.lst.1;omega) hv
theorem wn_len {n:Int} (h:I64 n):(wnS n).length≤20:=itoa_len n h.1 h.2
theorem wr_len {L:LV} (hw:LvW L) (hs:LvSm L) (hk:L.kind=1∨L.kind=2):∀p∈wrW L,p.length≤1000000:=by
 have t:=hs.txt;have hv:=wn_len hw.vlan;have hn:=wn_len hw.num;have hc:=wn_len hw.cost;have hm:=wm_len L.mac;intro p hp
 rcases hk with hk|hk
 · have e:wrW L=[vEe,L.dev,wnS L.num,wmS L.mac]:=by unfold wrW;rw [if_pos hk]
   rw [e] at hp;simp only [List.mem_cons,List.not_mem_nil,or_false] at hp
   rcases hp with rfl|rfl|rfl|rfl
   · decide
   all_goals omega
 · by_cases ht:L.tagged=[]
   · have e:wrW L=[vBf,L.dev,L.port,wnS L.cost,vAo,wnS L.vlan]:=by unfold wrW;rw [if_neg (by rw [hk];decide),if_pos hk,if_pos ht]
     rw [e] at hp;simp only [List.mem_cons,List.not_mem_nil,or_false] at hp
     rcases hp with rfl|rfl|rfl|rfl|rfl|rfl
     · decide
     · omega
     · omega
     · omega
     · decide
     · omega
   · have e:wrW L=[vBf,L.dev,L.port,wnS L.cost,vAu,if L.vlan=0 then vGm else wnS L.vlan,jn wnS L.tagged]:=by unfold wrW;rw [if_neg (by rw [hk];decide),if_pos hk,if_neg ht]
     rw [e] at hp;simp only [List.mem_cons,List.not_mem_nil,or_false] at hp
     rcases hp with rfl|rfl|rfl|rfl|rfl|rfl|rfl
     · decide
     · omega
     · omega
     · omega
     · decide
     · split
       · decide
       · omega
     · have:=jnK_len2 (f:=wnS) (xs:=L.tagged) (fun x hx=>wn_len (hw.tagged x hx)) L.tagged.length (Nat.le_refl _)
       have l:=hs.lst.1
       show (jnK wnS L.tagged L.tagged.length).length≤1000000
       omega
theorem box_range {w:World} {p:Nat} {L:LV} {s1 s2 s3 s4:SlV} (h:BoxF w p 17 (lc L s1 s2 s3 s4)):w.rangeAt p 0 (vEu L s1 s2 s3 s4):=by
 intro j v hv;have hj:j<17:=(List.getElem?_eq_some_iff.1 hv).1;rw [Nat.zero_add,h.1 j hj]
 have:=lc_list L s1 s2 s3 s4 j hj (vEu L s1 s2 s3 s4).toArray rfl
 rw [List.toList_toArray] at this;exact this.symm.trans hv
theorem exec_lineput {ρ:Operand→Value} {o:Oper} {x y:Operand} {w:World} {p:Nat} {K:Value→World→Prop} (ho:o.op=.store 37 x y) (hx:ρ x=.pointer (some ⟨p,0,none⟩)) (L:LV) (s1 s2 s3 s4:SlV) (hy:ρ y=vAw L s1 s2 s3 s4) (g:Nat→Value) (hb:BoxF w p 17 g)
 (h:∀w9,BoxF w9 p 17 (lc L s1 s2 s3 s4)→Ex p w w9→K undef w9):RunI Tryz.prog K ((execOp ρ o).run Tryz.prog w):=by
 have hs:(vEu L s1 s2 s3 s4).toArray.size=17:=rfl;have ht:w.there p 0 (vEu L s1 s2 s3 s4).toArray.size:=there_all (fun j hj=>by rw [hb.1 j (by omega)];rfl) hb.2;have hr:=run_storeVar_mid (P:=Tryz.prog) w p 0 37 (vEu L s1 s2 s3 s4).toArray ht vHe (by simp [vEu,Value.oneCell']);unfold execOp;simp only [ho,hx,show ρ y=.agg (vEu L s1 s2 s3 s4).toArray from hy,Instr.storeAt,Instr.sureAddr,Sem.run_bind,Sem.run_pure,Result.andThen_ok,hr]
 refine h _ ⟨fun j hj=>?_,fun o=>by rw [World.frozen?_setCells];exact hb.2 o⟩ (Ex.cells _ 0 w w (Ex.refl _ _))
 have:=World.rangeAt_setCells_same w p 0 (vEu L s1 s2 s3 s4) (by simpa using ht) j (lc L s1 s2 s3 s4 j) (by have:=lc_list L s1 s2 s3 s4 j hj (vEu L s1 s2 s3 s4).toArray rfl;simpa using this)
 rwa [Nat.zero_add] at this
theorem vAq {w w':World} {M:LV} {t1 t2 t3 t4:SlV} (h:LRead w M t1 t2 t3 t4) (hb:Below w.heap.size w w'):LRead w' M t1 t2 t3 t4:=⟨h.1.below hb,h.2.1.below hb,h.2.2.1.below hb,h.2.2.2.below hb⟩
theorem isl_ex {w w':World} {k:IntKind} {q:Nat} {s:SlV} {xs:List Int} (h:ISl w k s.A s.n s.c xs) (g:Ex q w w') (ho:∀ad,s.A=some ad→0<s.n→ad.block≠q):ISl w' k s.A s.n s.c xs:=by
 refine ⟨h.1,h.2.1,h.2.2.1,fun hn=>?_⟩;obtain ⟨b,off,e,hb,hc⟩:=h.2.2.2 hn;exact ⟨b,off,e,Nat.lt_of_lt_of_le hb g.size,fun i hi=>(g.cell (off+i) hb (ho _ e hn)).trans (hc i hi)⟩
structure RgI (L M:LV) (E:Int) (ws:List (List UInt8)) (s1 s2 s3 s4:SlV) (w W:World) (A:Option Addr) (n c:Nat) (t1 t2 t3 t4:SlV) (q:Nat) (x3 x4 x27 x28 x29 x30 x31 x32 x33 x34:Value) (d:Nat→Bool) (w':World):Prop where
 h3:d 8=true→x3=.pointer (some ⟨q,0,none⟩)
 h4:d 10=true→x4=.int .i64 E
 h27:d 5=true→x27=.tuple #[vAw M t1 t2 t3 t4,.int .i64 E]
 h28:d 0=true→x28=vAw L s1 s2 s3 s4
 h29:d 1=true→x29=.slice A n c
 h30:d 2=true→x30=.pointer (some ⟨w.heap.size,0,none⟩)
 h31:d 3=true→x31=.int .i64 L.row
 h32:d 4=true→x32=.tuple #[vAw M t1 t2 t3 t4,.int .i64 E]
 h33:d 6=true→x33=vAw M t1 t2 t3 t4
 h34:d 7=true→x34=.int .i64 E
 k4:d 4=true→d 1=true
 k9:d 9=true→d 8=true
 k96:d 9=true→d 6=true
 k64:d 6=true→d 5=true
 k54:d 5=true→d 4=true
 k74:d 7=true→d 5=true
 r1:d 1=true→d 4=false→SSl w' A n c ws
 r4:d 4=true→LRead w' M t1 t2 t3 t4
 b8:d 8=true→W.heap.size≤q∧q<w'.heap.size∧BoxF w' q 17 (if d 9=true then lc M t1 t2 t3 t4 else lc LV.zero SlV.nil SlV.nil SlV.nil SlV.nil)
 b9:d 9=true→True
 b:Below W.heap.size W w'
 n8:d 8=true→d 4=true→(∀ad,t1.A=some ad→0<t1.n→ad.block≠q)∧(∀ad,t2.A=some ad→0<t2.n→ad.block≠q)∧(∀ad,t3.A=some ad→0<t3.n→ad.block≠q)∧∀ad,t4.A=some ad→0<t4.n→ad.block≠q
inductive RgW (L M:LV) (E:Int) (ws:List (List UInt8)) (s1 s2 s3 s4:SlV) (w W:World) (d:Nat→Bool):Act→World→Prop
 |mk (A:Option Addr) (n c:Nat) (t1 t2 t3 t4:SlV) (q:Nat) {x3 x4 x27 x28 x29 x30 x31 x32 x33 x34:Value} {w':World}:RgI L M E ws s1 s2 s3 s4 w W A n c t1 t2 t3 t4 q x3 x4 x27 x28 x29 x30 x31 x32 x33 x34 d w'→RgW L M E ws s1 s2 s3 s4 w W d {tmps:=#[.agg #[.int .i64 L.row,.int .i64 L.kind,.string (str L.dev),.string (str L.port),.string (str L.peer),.string (str L.far),.string (str L.name),.int .u64 L.mac,.int .u32 L.addr,.int .i64 L.bits,.int .i64 L.vlan,.int .i64 L.num,.int .i64 L.cost,.slice s1.A s1.n s1.c,.slice s2.A s2.n s2.c,.slice s3.A s3.n s3.c,.slice s4.A s4.n s4.c],.pointer (some ⟨w.heap.size,0,none⟩),.bool false,x3,x4,.pointer (some ⟨w.heap.size,13,none⟩),.slice s1.A s1.n s1.c,.int .i64 (s1.n:Int),.bool false,.bool false,.pointer (some ⟨w.heap.size,14,none⟩),.slice s2.A s2.n s2.c,.int .i64 (s2.n:Int),.bool false,.bool false,.bool false,.pointer (some ⟨w.heap.size,15,none⟩),.slice s3.A s3.n s3.c,.int .i64 (s3.n:Int),.bool false,.bool false,.bool false,.pointer (some ⟨w.heap.size,16,none⟩),.slice s4.A s4.n s4.c,.int .i64 (s4.n:Int),.bool false,.bool false,x27,x28,x29,x30,x31,x32,x33,x34,undef,undef,undef,undef,undef,undef,undef],defers:=[]} w'
theorem rrright_gen (L:LV) (s1 s2 s3 s4:SlV) (w:World) (h:LRead w L s1 s2 s3 s4) (hc:∀w',LRead w' L s1 s2 s3 s4→Calls Tryz.prog 81 #[vAw L s1 s2 s3 s4] w' (GotWs (wrW L) w')) (hn:∀p∈wrW L,p.length≤1000000):Calls Tryz.prog 30 #[vAw L s1 s2 s3 s4] w fun e w'=>e=.returned (.bool (rrB L))∧Below w.heap.size w w':=by
 have H:=hid h;have l1:=h.1.len;have l2:=h.2.1.len;have l3:=h.2.2.1.len;have l4:=h.2.2.2.len;have P0:=hid (vCc w L s1 s2 s3 s4 37);have CW:=hid hc;have WL:=hid hn;obtain ⟨ws,hws⟩:∃ws,wrW L=ws:=⟨_,rfl⟩;obtain ⟨E,hE⟩:∃E,rdE ws L.row=E:=⟨_,rfl⟩;obtain ⟨M,hM⟩:∃M,rdL ws L.row=M:=⟨_,rfl⟩;have RR:=hid (show rrB L=((decide (s1.n≤16) && (decide (s2.n≤16) && (decide (s3.n≤16) && decide (s4.n≤16)))) && (decide (E=0) && vFm L M)) by unfold rrB;rw [hws,hE,hM,l1,l2,l3,l4])
 obtain ⟨rr,hrr⟩:∃rr,rrB L=rr:=⟨_,rfl⟩;rw [hrr] at RR ⊢;rw [hws] at CW WL;have CR:=hid (fun A n c w' (hr:SSl w' A n c ws)=>rread_any A n c ws L.row w' hr WL.out);rw [hE,hM] at CR;have CS:=hid (fun w' t1 t2 t3 t4 (hr:LRead w' L s1 s2 s3 s4) (g:LRead w' M t1 t2 t3 t4)=>rsame_any L M s1 s2 s3 s4 t1 t2 t3 t4 w' hr g);clear h hc hn l1 l2 l3 l4 hws hE hM hrr WL;unfold GotWs at CW;unfold vCr at CR
 have H2:=H.out;have hle1:=H2.1.le;have hcap1:=H2.1.cap;have hle2:=H2.2.1.le;have hcap2:=H2.2.1.cap;have hle3:=H2.2.2.1.le;have hcap3:=H2.2.2.1.cap;have hle4:=H2.2.2.2.le;have hcap4:=H2.2.2.2.cap;clear H2;rw [show vAw L s1 s2 s3 s4=.agg #[.int .i64 L.row,.int .i64 L.kind,.string (str L.dev),.string (str L.port),.string (str L.peer),.string (str L.far),.string (str L.name),.int .u64 L.mac,.int .u32 L.addr,.int .i64 L.bits,.int .i64 L.vlan,.int .i64 L.num,.int .i64 L.cost,.slice s1.A s1.n s1.c,.slice s2.A s2.n s2.c,.slice s3.A s3.n s3.c,.slice s4.A s4.n s4.c] from rfl]
 go_enter Tryz.func30,Tryz.ntmps30
 go_upto_region 1 with fail
 obtain ⟨w1,hw1⟩:∃w1,w.alloc (.cells (lA L s1 s2 s3 s4) 37)=w1:=⟨_,rfl⟩;have B1:=hid (show Below w.heap.size w w1 by rw [←hw1];exact (Below.refl _ _).alloc (Nat.le_refl _) _);rw [hw1] at P0 ⊢;have Q0:=hid (show w.heap.size<w1.heap.size by rw [←hw1];simp);clear hw1;have c13:w1.cell? ⟨w.heap.size,13,none⟩=some (.slice s1.A s1.n s1.c):=P0.out.cell 13 (by omega);have c14:w1.cell? ⟨w.heap.size,14,none⟩=some (.slice s2.A s2.n s2.c):=P0.out.cell 14 (by omega)
 have c15:w1.cell? ⟨w.heap.size,15,none⟩=some (.slice s3.A s3.n s3.c):=P0.out.cell 15 (by omega);have c16:w1.cell? ⟨w.heap.size,16,none⟩=some (.slice s4.A s4.n s4.c):=P0.out.cell 16 (by omega)
 by_cases g1:s1.n≤16
 rotate_left
 · have E1:=hid (show rr=false by rw [RR.out,decide_eq_false g1];rfl)
   have lt1:(16:Int)<(s1.n:Int):=by omega
   clear g1;go_wp2;go_ret;exact ⟨by rw [E1.out];rfl,B1.out⟩
 have lt1:¬(16:Int)<(s1.n:Int):=by omega
 by_cases g2:s2.n≤16
 rotate_left
 · have E1:=hid (show rr=false by rw [RR.out,decide_eq_false g2,decide_eq_true g1];rfl)
   have lt2:(16:Int)<(s2.n:Int):=by omega
   clear g2;go_wp2;go_ret;exact ⟨by rw [E1.out];rfl,B1.out⟩
 have lt2:¬(16:Int)<(s2.n:Int):=by omega
 by_cases g3:s3.n≤16
 rotate_left
 · have E1:=hid (show rr=false by rw [RR.out,decide_eq_false g3,decide_eq_true g1,decide_eq_true g2];rfl)
   have lt3:(16:Int)<(s3.n:Int):=by omega
   clear g3;go_wp2;go_ret;exact ⟨by rw [E1.out];rfl,B1.out⟩
 have lt3:¬(16:Int)<(s3.n:Int):=by omega
 by_cases g4:s4.n≤16
 rotate_left
 · have E1:=hid (show rr=false by rw [RR.out,decide_eq_false g4,decide_eq_true g1,decide_eq_true g2,decide_eq_true g3];rfl)
   have lt4:(16:Int)<(s4.n:Int):=by omega
   clear g4;go_wp2;go_ret;exact ⟨by rw [E1.out];rfl,B1.out⟩
 have lt4:¬(16:Int)<(s4.n:Int):=by omega
 have RR:=hid (show rr=(decide (E=0) && vFm L M) by rw [RR.out,decide_eq_true g1,decide_eq_true g2,decide_eq_true g3,decide_eq_true g4];rfl);clear g1 g2 g3 g4
 go_upto_region 3 with fail
 have W_:=hid (show ∀wx,Below w1.heap.size w1 wx→(wx.cell? ⟨w.heap.size,0,none⟩=some (.int .i64 L.row))∧BoxF wx w.heap.size 17 (lc L s1 s2 s3 s4)∧LRead wx L s1 s2 s3 s4∧Below w.heap.size w wx from fun wx hx=>by
  have bx:=P0.out.below (by omega) hx
  exact ⟨bx.cell 0 (by omega),bx,⟨H.out.1.below (B1.out.trans (hx.mono B1.out.size)),H.out.2.1.below (B1.out.trans (hx.mono B1.out.size)),H.out.2.2.1.below (B1.out.trans (hx.mono B1.out.size)),H.out.2.2.2.below (B1.out.trans (hx.mono B1.out.size))⟩,B1.out.trans (hx.mono B1.out.size)⟩)
 clear c13 c14 c15 c16;refine vDx (RgW L M E ws s1 s2 s3 s4 w w1) (by kernel_rfl) (by kernel_rfl) ?_ ?_ ?_
 · refine RgW.mk none 0 0 SlV.nil SlV.nil SlV.nil SlV.nil 0 ?_
   constructor
   case b=>exact (Below.refl _ _).drew
   all_goals first|exact fun h=>by cases h|exact fun h _=>by cases h
 · rintro d a w' j o @⟨A,n,c,t1,t2,t3,t4,q,x3,x4,x27,x28,x29,x30,x31,x32,x33,x34,_,hv⟩ ho hd hdep
   obtain ⟨h3,h4,h27,h28,h29,h30,h31,h32,h33,h34,k4,k9,k96,k64,k54,k74,r1,r4,b8,b9,b,n8⟩:=hv;have K_:=W_.out w' b
   rcases j with _|_|_|_|_|_|_|_|_|_|_|j
   · cases ho
     refine .inl ⟨rfl,?_⟩;rw [run_op_line (box_range K_.2.1) rfl rfl];refine RgW.mk A n c t1 t2 t3 t4 q ?_
     constructor
     all_goals first|assumption|exact fun _=>rfl|exact fun _=>trivial
   · cases ho
     have e0_:=hdep 0 (by kernel_rfl);obtain rfl:=h28 e0_
     have e8:∀i,d i=true→d i=true:=fun _ h=>h
     have e4:d 4=false:=by
      cases hx:d 4 with
      |false=>rfl
      |true=>have:=k4 hx;rw [hd] at this;cases this
     refine .inl ⟨rfl,?_⟩
     go_simp
     refine (CW.out _ K_.2.2.1).mono ?_;rintro e w2 ⟨A2,n2,c2,rfl,hr,hb⟩;refine ⟨_,rfl,?_⟩;refine RgW.mk A2 n2 c2 t1 t2 t3 t4 q ?_
     constructor
     case k4=>exact fun _=>by simp
     case r1=>exact fun _ _=>hr
     case r4=>exact fun h=>by simp [e4] at h
     case b8=>exact fun h=>by have g:=b8 (by simpa using h);exact ⟨g.1,Nat.lt_of_lt_of_le g.2.1 hb.size,by simpa using g.2.2.below (by omega) hb⟩
     case b=>exact vAa b hb
     all_goals first|assumption|exact fun _=>rfl|exact fun _=>trivial
   · cases ho
     refine .inl ⟨rfl,?_⟩
     go_simp
     refine RgW.mk A n c t1 t2 t3 t4 q ?_
     constructor
     all_goals first|assumption|exact fun _=>rfl|exact fun _=>trivial
   · cases ho
     have e2_:=hdep 2 (by kernel_rfl);obtain rfl:=h30 e2_;have c0:=K_.1;refine .inl ⟨rfl,?_⟩
     go_simp
     refine RgW.mk A n c t1 t2 t3 t4 q ?_
     constructor
     all_goals first|assumption|exact fun _=>rfl|exact fun _=>trivial
   · cases ho
     have e1_:=hdep 1 (by kernel_rfl);obtain rfl:=h29 e1_;have e3_:=hdep 3 (by kernel_rfl);obtain rfl:=h31 e3_
     have e5:d 5=false:=by
      cases hx:d 5 with
      |false=>rfl
      |true=>have:=k54 hx;rw [hd] at this;cases this
     have e6:d 6=false:=by
      cases hx:d 6 with
      |false=>rfl
      |true=>have:=k64 hx;rw [e5] at this;cases this
     have e9:d 9=false:=by
      cases hx:d 9 with
      |false=>rfl
      |true=>have:=k96 hx;rw [e6] at this;cases this
     refine .inl ⟨rfl,?_⟩
     go_simp
     refine (CR.out A n c _ (r1 e1_ hd)).mono ?_;rintro e w2 ⟨u1,u2,u3,u4,rfl,hr,hn,hb⟩;refine ⟨_,rfl,?_⟩;refine RgW.mk A n c u1 u2 u3 u4 q ?_
     constructor
     case h27=>exact fun h=>by simp [e5] at h
     case h33=>exact fun h=>by simp [e6] at h
     case k4=>exact fun _=>by simpa using e1_
     case k54=>exact fun _=>by simp
     case r1=>exact fun _ g=>by simp at g
     case r4=>exact fun _=>hr
     case b8=>exact fun h=>by have g:=b8 (by simpa using h);have e9:d 9=false:=e9;exact ⟨g.1,Nat.lt_of_lt_of_le g.2.1 hb.size,by have:=g.2.2.below (by omega) hb;simpa [e9] using this⟩
     case b=>exact vAa b hb
     case n8=>exact fun h _=>by have g:=b8 (by simpa using h);exact ⟨fun ad e _=>by have:=hn.1 ad e;omega,fun ad e _=>by have:=hn.2.1 ad e;omega,fun ad e _=>by have:=hn.2.2.1 ad e;omega,fun ad e _=>by have:=hn.2.2.2 ad e;omega⟩
     all_goals first|assumption|exact fun _=>rfl|exact fun _=>trivial
   · cases ho
     have e4_:=hdep 4 (by kernel_rfl);obtain rfl:=h32 e4_;refine .inl ⟨rfl,?_⟩
     go_simp
     refine RgW.mk A n c t1 t2 t3 t4 q ?_
     constructor
     case k64=>exact fun _=>by simp
     case k54=>exact fun _=>by simpa using e4_
     case k74=>exact fun _=>by simp
     all_goals first|assumption|exact fun _=>rfl|exact fun _=>trivial
   · cases ho
     have e5_:=hdep 5 (by kernel_rfl);obtain rfl:=h27 e5_;refine .inl ⟨rfl,?_⟩
     go_simp
     refine RgW.mk A n c t1 t2 t3 t4 q ?_
     constructor
     case k96=>exact fun _=>by simp
     case k64=>exact fun _=>by simpa using e5_
     all_goals first|assumption|exact fun _=>rfl|exact fun _=>trivial
   · cases ho
     have e5_:=hdep 5 (by kernel_rfl);obtain rfl:=h27 e5_;refine .inl ⟨rfl,?_⟩
     go_simp
     refine RgW.mk A n c t1 t2 t3 t4 q ?_
     constructor
     case k74=>exact fun _=>by simpa using e5_
     all_goals first|assumption|exact fun _=>rfl|exact fun _=>trivial
   · cases ho
     have e9:d 9=false:=by
      cases hx:d 9 with
      |false=>rfl
      |true=>have:=k9 hx;rw [hd] at this;cases this
     refine .inl ⟨rfl,?_⟩;rw [alloc_line _ _ rfl];refine RgW.mk A n c t1 t2 t3 t4 w'.heap.size ?_
     constructor
     case k9=>exact fun _=>by simp
     case r1=>exact fun h g=>(r1 (by simpa using h) (by simpa using g)).below ((Below.refl _ _).alloc (Nat.le_refl _) _)
     case r4=>exact fun h=>vAq (r4 (by simpa using h)) ((Below.refl _ _).alloc (Nat.le_refl _) _)
     case b8=>exact fun _=>⟨b.size,by simp,by have:=vBv w' 37;simpa [e9] using this⟩
     case b=>exact b.alloc b.size _
     case n8=>exact fun _ g=>by have r:=r4 (by simpa using g);exact ⟨fun ad e h=>Nat.ne_of_lt (lt_isl (s:=t1) r.1 ad e h),fun ad e h=>Nat.ne_of_lt (lt_isl (s:=t2) r.2.1 ad e h),fun ad e h=>Nat.ne_of_lt (lt_isl (s:=t3) r.2.2.1 ad e h),fun ad e h=>Nat.ne_of_lt (lt_isl (s:=t4) r.2.2.2 ad e h)⟩
     all_goals first|assumption|exact fun _=>rfl|exact fun _=>trivial
   · cases ho
     have e8_:=hdep 8 (by kernel_rfl);obtain rfl:=h3 e8_;have e6_:=hdep 6 (by kernel_rfl);obtain rfl:=h33 e6_;have g:=b8 e8_;rw [hd] at g;simp only [Bool.false_eq_true,if_false] at g;have e5_:=k64 e6_;have e4_:=k54 e5_;have r:=r4 e4_;have nn:=n8 e8_ e4_;refine .inl ⟨rfl,?_⟩;refine exec_lineput rfl rfl M t1 t2 t3 t4 rfl _ g.2.2 (fun w9 b9_ x9=>?_);have R4_:LRead w9 M t1 t2 t3 t4:=⟨isl_ex (s:=t1) r.1 x9 nn.1,isl_ex (s:=t2) r.2.1 x9 nn.2.1,isl_ex (s:=t3) r.2.2.1 x9 nn.2.2.1,isl_ex (s:=t4) r.2.2.2 x9 nn.2.2.2⟩
     refine RgW.mk A n c t1 t2 t3 t4 q ?_
     constructor
     case k9=>exact fun _=>by simpa using e8_
     case k96=>exact fun _=>by simpa using e6_
     case r1=>exact fun _ g=>by simp [e4_] at g
     case r4=>exact fun h=>R4_
     case b8=>exact fun _=>⟨g.1,Nat.lt_of_lt_of_le g.2.1 x9.size,by simpa using b9_⟩
     case b=>exact Below.ex b x9 g.1 b.size
     all_goals first|assumption|exact fun _=>rfl|exact fun _=>trivial
   · cases ho
     have e7_:=hdep 7 (by kernel_rfl);obtain rfl:=h34 e7_;refine .inl ⟨rfl,?_⟩
     go_simp
     refine RgW.mk A n c t1 t2 t3 t4 q ?_
     constructor
     all_goals first|assumption|exact fun _=>rfl|exact fun _=>trivial
   · simp at ho
 · rintro d a w' @⟨A,n,c,t1,t2,t3,t4,q,x3,x4,x27,x28,x29,x30,x31,x32,x33,x34,_,hv⟩ hall
   obtain ⟨h3,h4,h27,h28,h29,h30,h31,h32,h33,h34,k4,k9,k96,k64,k54,k74,r1,r4,b8,b9,b,n8⟩:=hv;have e8:=hall 8 (by decide);have e4:=hall 4 (by decide);have e9:=hall 9 (by decide);obtain rfl:=h3 e8;obtain rfl:=h4 (hall 10 (by decide));have BX:=hid (b8 e8);rw [e9] at BX;simp only [if_true] at BX;have R4:=hid (r4 e4);have K1:=hid (W_.out w' b);clear h27 h28 h29 h30 h31 h32 h33 h34 k4 k9 k96 k64 k54 k74 r1 r4 b8 b9 b n8 hall e8 e4 e9
   have z13:=0
   by_cases eE:E=0
   · have y1:(E == 0)=true:=by simpa using eE
     have RF:=hid (show rr=vFm L M by rw [RR.out,decide_eq_true eE,Bool.true_and]);clear eE z13
     go_wp2_with (first
      |((with_reducible refine vAf ?hg (.tmp 1) ?ho w.heap.size ?hx L s1 s2 s3 s4 K1.out.2.1 ?_);(case hg=>rfl);(case ho=>rfl);(case hx=>rfl))
      |((with_reducible refine vAf ?hg (.tmp 3) ?ho q ?hx M t1 t2 t3 t4 BX.out.2.2 ?_);(case hg=>rfl);(case ho=>rfl);(case hx=>rfl))
      |(go_at_call 82;(with_reducible refine (CS.out _ t1 t2 t3 t4 K1.out.2.2.1 R4.out).mono ?_);rintro e w5 ⟨rfl,hb5⟩))
     go_ret;exact ⟨by rw [RF.out];rfl,vAa K1.out.2.2.2 hb5⟩
   · have y1:(E == 0)=false:=by simpa using eE
     have RF:=hid (show rr=false by rw [RR.out,decide_eq_false eE,Bool.false_and]);clear eE z13;go_wp2;go_ret;exact ⟨by rw [RF.out];rfl,K1.out.2.2.2⟩
theorem rrright_any (L:LV) (s1 s2 s3 s4:SlV) (w:World) (h:LRead w L s1 s2 s3 s4) (hw:LvW L) (hs:LvSm L) (hk:L.kind=1∨L.kind=2):Calls Tryz.prog 30 #[vAw L s1 s2 s3 s4] w fun e w'=>e=.returned (.bool (rrB L))∧Below w.heap.size w w':=
 rrright_gen L s1 s2 s3 s4 w h (fun w' hr=>rwords_any L s1 s2 s3 s4 w' hr hw hs hk) (wr_len hw hs hk)
end Go.Proofs.YtgnkpbgaoiaefaaGreat
