import Derived.Test.YtkpbbfehglihlaaGreatDoorDs04
import Derived.Test.YtkpbbfehglihlaaGreatDoorDs39
import Derived.Test.YtkpbbfehglihlaaGreatDoorDs35
set_option maxRecDepth 100000
set_option maxHeartbeats 40000000
namespace Go.Proofs.YtkpbbfehglihlaaGreatDoor
open Go.Lib (hid)
open Go
section
variable {P:Program} {ops:Array Oper} {Q:Exit→Act→World→Prop} {md:Region.Mode} {S:Bool→World→Prop} {j0:Nat}
theorem getD_ready {listed:Array Bool} {j:Nat} (h:listed.getD j true=false):listed.getD j false=false:=by
 unfold Array.getD at h ⊢
 split at h
 · rename_i hj
   rw [dif_pos hj];exact h
 · cases h
def StepF (P:Program) (ops:Array Oper) (S:Bool→World→Prop) (j0 i:Nat) (o:Oper) (v:Value) (a:Act):Prop:=
 (Region.wanted o (yielded ops a.tmps)=true∧((i=j0∧∀w,S false w→StepRun P (S true) v ((execOp a.eval o).run P w))∨(i≠j0∧∀f w,S f w→StepRun P (S f) v ((execOp a.eval o).run P w))))∨
 (Region.wanted o (yielded ops a.tmps)=false∧v=undef∧i≠j0)
theorem StepF.of_put {i:Nat} {o:Oper} {v u:Value} {a:Act} {dst:Option Tmp} (hs:∀cs b,o.op≠.select cs b) (h:∀d,dst=some d→d∉o.looksAt ops):
 StepF P ops S j0 i o v (a.put dst u)↔StepF P ops S j0 i o v a:=by
 unfold StepF;rw [execOp_put o hs a dst u h,wanted_put o a dst u h]
theorem stepRun_wp {i:Nat} {o:Oper} {v:Value} {a:Act} {T:World→Prop} (hi:ops[i]?=some o) (hw:Region.wanted o (yielded ops a.tmps)=true) {K:Act→World→Prop} {w:World} (hr:StepRun P T v ((execOp a.eval o).run P w)) (h:∀w',T w'→K (a.put o.dst v) w'):
 wpOp P ops Q i K a w:=by
 unfold Go.wpOp;simp only [hi,hw,if_true]
 left
 unfold Oper.wp;generalize (execOp a.eval o).run P w=r at hr ⊢
 cases r with
 |ok n w'=>
  cases n with
  |value u=>
   obtain ⟨rfl,h2⟩:=hr;exact h _ h2
  |skip=>
   obtain ⟨rfl,h2⟩:=hr;exact h _ h2
  |enter f args=>exact Calls.mono (show Calls P f args w' _ from hr) fun e w'' ⟨he,hs⟩=>by subst he;exact h _ hs
  |_=>exact (show False from hr).elim
 |halt x w'=>exact (show False from hr).elim
theorem getD_setF (listed:Array Bool) {i j:Nat} (h:i≠j):(listed.setIfInBounds i true).getD j false=listed.getD j false:=by
 unfold Array.getD
 by_cases hj:j<listed.size
 · rw [dif_pos (by simpa using hj),dif_pos hj]
   exact Array.getElem_setIfInBounds_ne _ h
 · rw [dif_neg (by simpa using hj),dif_neg hj]
theorem StepF.wpOp {i:Nat} {o:Oper} {v:Value} {a:Act} {listed:Array Bool} (hi:ops[i]?=some o) (hsz:listed.size=ops.size) (hun:listed.getD i false=false) (hy:StepF P ops S j0 i o v a) {K:Act→World→Prop} {w:World} (hS:S (listed.getD j0 false) w)
 (h:∀w',S ((listed.setIfInBounds i true).getD j0 false) w'→K (a.put o.dst v) w'):wpOp P ops Q i K a w:=by
 have hlt:i<listed.size:=by rw [hsz];exact (Array.getElem?_eq_some_iff.1 hi).1
 rcases hy with ⟨hw,⟨rfl,hr⟩|⟨hne,hr⟩⟩|⟨hw,rfl,hne⟩
 · rw [hun] at hS
   refine stepRun_wp hi hw (hr w hS) (fun w' hS'=>h w' ?_);rw [show (listed.setIfInBounds i true).getD i false=true by simp [Array.getD,hlt]];exact hS'
 · refine stepRun_wp hi hw (hr _ w hS) (fun w' hS'=>h w' ?_)
   rw [show (listed.setIfInBounds i true).getD j0 false=listed.getD j0 false from getD_setF listed hne];exact hS'
 · unfold Go.wpOp
   simp only [hi,hw,Bool.false_eq_true,if_false];refine h w ?_;rw [show (listed.setIfInBounds i true).getD j0 false=listed.getD j0 false from getD_setF listed hne];exact hS
def DerF (P:Program) (md:Region.Mode) (ops:Array Oper) (Q:Exit→Act→World→Prop) (S:Bool→World→Prop) (j0:Nat):Nat→Array Bool→Act→Prop
 |0,listed,a=>Region.ready md ops listed=[]∧∀w,S (listed.getD j0 false) w→Q .normal a w
 |fuel+1,listed,a=>(Region.ready md ops listed=[]∧∀w,S (listed.getD j0 false) w→Q .normal a w)∨
  ∃i oi v,ops[i]?=some oi∧Region.free md ops listed i=true∧i∈Region.ready md ops listed∧StepF P ops S j0 i oi v a∧DerF P md ops Q S j0 fuel (listed.setIfInBounds i true) (a.put oi.dst v)
theorem DerF.swap (hsel:∀(j:Nat) (o:Oper) cs b,ops[j]?=some o→o.op≠.select cs b):∀(fuel:Nat) (listed:Array Bool) (a:Act),DerF P md ops Q S j0 (fuel+1) listed a→
 ∀(j:Nat) (oj:Oper),ops[j]?=some oj→j∈Region.ready md ops listed→∃v,StepF P ops S j0 j oj v a∧DerF P md ops Q S j0 fuel (listed.setIfInBounds j true) (a.put oj.dst v):=by
 intro fuel
 induction fuel with
 |zero=>
  intro listed a D j oj hoj hj
  rcases D with ⟨hr,_⟩|⟨i,oi,v,hi,hf,hr,hy,D'⟩
  · rw [hr] at hj;cases hj
  · by_cases hij:j=i
    · subst hij
      rw [hi] at hoj
      cases hoj
      exact ⟨v,hy,D'⟩
    · have:=ready_mono hj hij
      rw [D'.1] at this
      cases this
 |succ fuel ih=>
  intro listed a D j oj hoj hj
  rcases D with ⟨hr,_⟩|⟨i,oi,v,hi,hf,hr,hy,D'⟩
  · rw [hr] at hj;cases hj
  · by_cases hij:j=i
    · subst hij
      rw [hi] at hoj
      cases hoj
      exact ⟨v,hy,D'⟩
    · obtain ⟨u,hyj,D2⟩:=ih _ _ D' j oj hoj (ready_mono hj hij)
      obtain ⟨hjun,oj2,hoj2,hall⟩:=mem_ready.1 hj;rw [hoj] at hoj2
      cases hoj2
      have hnot:∀e∈oj.after,Region.binds md e=true→e.on≠i:=fun e he hb heq=>by
       have h1:=hall e he hb;have h0:=(mem_ready.1 hr).1;rw [heq] at h1
       rcases Nat.lt_or_ge i listed.size with h'|h'
       · simp [h'] at h0 h1;rw [h0] at h1;cases h1
       · simp [Array.getElem?_eq_none h'] at h1
      obtain ⟨h1,h2,h3⟩:=Oper.apart_spec (Region.free_spec hi hf j oj hoj hij hjun hnot)
      refine ⟨u,(StepF.of_put (hsel j oj · · hoj) h1).1 hyj,.inr ⟨i,oi,v,hi,vHb hf,ready_mono hr (Ne.symm hij),(StepF.of_put (hsel i oi · · hi) h3).2 hy,?_⟩⟩
      rw [Array.setIfInBounds_comm _ _ hij,←Act.put_comm a v u h2];exact D2
theorem DerF.any (hsel:∀(j:Nat) (o:Oper) cs b,ops[j]?=some o→o.op≠.select cs b):∀(fuel:Nat) (listed:Array Bool) (a:Act),listed.size=ops.size→DerF P md ops Q S j0 fuel listed a→∀w,S (listed.getD j0 false) w→wpAny P md ops Q fuel listed a w:=by
 intro fuel
 induction fuel with
 |zero=>intro listed a _ D w hS;exact ⟨D.1,D.2 w hS⟩
 |succ fuel ih=>
  intro listed a hsz D w hS;refine ⟨fun hr=>?_,fun j hj=>?_⟩
  · rcases D with ⟨_,h⟩|⟨i,oi,v,hi,hf,hr2,hy,D'⟩
    · exact h w hS
    · rw [hr] at hr2;cases hr2
  · obtain ⟨hun,oj,hoj,_⟩:=mem_ready.1 hj
    obtain ⟨v,hy,D'⟩:=DerF.swap hsel fuel listed a D j oj hoj hj;exact hy.wpOp hoj hsz (getD_ready hun) hS (fun w' hS'=>ih _ _ (by simpa using hsz) D' w' hS')
def SeqF (P:Program) (ops:Array Oper) (Q:Exit→Act→World→Prop) (S:Bool→World→Prop) (j0:Nat):Nat→List Oper→Act→Prop
 |k,[],a=>∀w,S (decide (j0<k)) w→Q .normal a w
 |k,o :: rest,a=>∃v,StepF P ops S j0 k o v a∧SeqF P ops Q S j0 (k+1) rest (a.put o.dst v)
theorem SeqF.run {k:Nat} {o:Oper} {rest:List Oper} {a:Act} (v:Value) (hw:Region.wanted o (yielded ops a.tmps)=true) (hk:k≠j0) (hr:∀f w,S f w→StepRun P (S f) v ((execOp a.eval o).run P w)) (h:SeqF P ops Q S j0 (k+1) rest (a.put o.dst v)):
 SeqF P ops Q S j0 k (o :: rest) a:=⟨v,.inl ⟨hw,.inr ⟨hk,hr⟩⟩,h⟩
theorem SeqF.make {k:Nat} {o:Oper} {rest:List Oper} {a:Act} (v:Value) (hw:Region.wanted o (yielded ops a.tmps)=true) (hk:k=j0) (hr:∀w,S false w→StepRun P (S true) v ((execOp a.eval o).run P w)) (h:SeqF P ops Q S j0 (k+1) rest (a.put o.dst v)):
 SeqF P ops Q S j0 k (o :: rest) a:=⟨v,.inl ⟨hw,.inl ⟨hk,hr⟩⟩,h⟩
theorem SeqF.last {k:Nat} {a:Act} (h:∀w,S (decide (j0<k)) w→Q .normal a w):SeqF P ops Q S j0 k [] a:=h
theorem upto_getD (n k j:Nat) (h:j<n):(upto n k).getD j false=decide (j<k):=by
 unfold upto;simp [Array.getD,h]
theorem SeqF.der (hck:vDf md ops=true) (hj:j0<ops.size):∀(n k:Nat) (a:Act),k+n=ops.size→SeqF P ops Q S j0 k (ops.toList.drop k) a→DerF P md ops Q S j0 n (upto ops.size k) a:=by
 unfold vDf at hck;simp only [Bool.and_eq_true,List.all_eq_true,List.mem_range] at hck;intro n
 induction n with
 |zero=>
  intro k a hk h;rw [List.drop_eq_nil_of_le (by simp;omega)] at h;refine ⟨vHt k (by omega),?_⟩;rw [upto_getD _ _ _ hj];exact h
 |succ n ih=>
  intro k a hk h
  have hlt:k<ops.size:=by omega
  rw [List.drop_eq_getElem_cons (by simpa using hlt)] at h;obtain ⟨v,hs,h⟩:=h;obtain ⟨h1,h2⟩:=hck.2 k hlt;refine .inr ⟨k,ops[k],v,Array.getElem?_eq_getElem hlt,h1,by simpa using h2,by simpa using hs,?_⟩;rw [upto_set];exact ih (k+1) _ (by omega) (by simpa using h)
theorem wp_region_makes {l:List Oper} {id:Nat} {a:Act} {w:World} (S:Bool→World→Prop) (j0:Nat) (hm:P.follows .mixedOrders=true) (hck:vDf .any l.toArray=true) (hj:j0<l.length) (hS:S false w.drew) (h:SeqF P l.toArray Q S j0 0 l a):(Code.region id l.toArray true).wp P Q a w:=by
 have hsel:=Region.noSelect_spec (ops:=l.toArray) (by unfold vDf at hck;rw [Bool.and_eq_true] at hck;exact hck.1);have hd:=SeqF.der (md:=.any) hck (by simpa using hj) l.toArray.size 0 a (by omega) (by simpa using h)
 have h0:(upto l.toArray.size 0).getD j0 false=false:=by rw [upto_getD _ _ _ (by simpa using hj)];simp
 have hs0:S ((upto l.toArray.size 0).getD j0 false) w.drew:=by rw [h0];exact hS
 rw [upto_zero] at hd hs0;exact wp_region_any hm (DerF.any hsel _ _ _ (by simp) hd _ hs0)
end
open Go.RowKit
def NineI (w:World) (q:Nat) (zs:List Int):Prop:=q<w.heap.size∧∀j,j<9→w.cell? ⟨q,j,none⟩=some (.int .i64 (zs.getD j 0))
theorem nine_new (w:World) (T:TypeId) (z0 z1 z2 z3 z4 z5 z6 z7 z8:Int) {q:Nat} (hq:w.heap.size=q):NineI (w.alloc (.cells #[.int .i64 z0,.int .i64 z1,.int .i64 z2,.int .i64 z3,.int .i64 z4,.int .i64 z5,.int .i64 z6,.int .i64 z7,.int .i64 z8] T)) q [z0,z1,z2,z3,z4,z5,z6,z7,z8]:=by
 subst hq;refine ⟨by simp,fun j hj=>?_⟩
 match j,hj with
 |0,_|1,_|2,_|3,_|4,_|5,_|6,_|7,_|8,_=>simp
 |j+9,h=>exact absurd h (by omega)
def nineZ (L:LV):List Int:=[((str L.dev).size:Int),((str L.port).size:Int),((str L.peer).size:Int),((str L.far).size:Int),((str L.name).size:Int),(L.tagged.length:Int),(L.imports.length:Int),(L.exports.length:Int),(L.addrs.length:Int)]
structure LvSm (L:LV):Prop where
 txt:L.dev.length≤300∧L.port.length≤300∧L.peer.length≤300∧L.far.length≤300∧L.name.length≤300
 lst:L.tagged.length≤300∧L.imports.length≤300∧L.exports.length≤300∧L.addrs.length≤300
theorem nine_sm {L:LV} (h:∀j,j<9→(nineZ L).getD j 0≤300):LvSm L:=by
 have h0:=h 0 (by omega);have h1:=h 1 (by omega);have h2:=h 2 (by omega);have h3:=h 3 (by omega);have h4:=h 4 (by omega);have h5:=h 5 (by omega);have h6:=h 6 (by omega);have h7:=h 7 (by omega);have h8:=h 8 (by omega);simp [nineZ,vBa] at h0 h1 h2 h3 h4 h5 h6 h7 h8;exact ⟨⟨by omega,by omega,by omega,by omega,by omega⟩,⟨by omega,by omega,by omega,by omega⟩⟩
def GotSm (n:Nat) (xs:List LV) (w:World) (e:Ending) (w':World):Prop:=∃g,e=.returned (.bool g)∧(g=false→n≤400∧∀k,k<n→LvSm (xs.getD k LV.zero))∧Below w.heap.size w w'
theorem great12_any (A:Option Addr) (n c:Nat) (xs:List LV) (w:World) (h:RSl lineR w (vAs w) A n c xs):
 Calls Tryz.prog 26 #[.slice A n c] w fun e w'=>GotSm n xs w e w':=by
 unfold GotSm;have hle:=h.le;have hcap:=h.cap;have H:=hid h;clear h
 by_cases h4:400<n
 · have i0:(400:Int)<(n:Int):=by omega
   go_enter Tryz.func26,Tryz.ntmps26
   go_wp2;go_ret;exact ⟨true,rfl,fun e=>(by cases e),Below.refl _ _⟩
 have i0:¬(400:Int)<(n:Int):=by omega
 go_enter Tryz.func26,Tryz.ntmps26
 go_wp2
 go_loopw [3,4] (fun s i wr=>∃(k:Nat) (z:Int),i=.int .i64 k∧s=.int .i64 z∧k≤n∧(∀j,j<k→LvSm (xs.getD j LV.zero))∧Below w.heap.size w wr) (fun _ i _=>match i with| .int _ x=>(n - x).toNat|_=>0)
 case atStart=>exact ⟨0,0,rfl,rfl,by omega,fun j h=>absurd h (by omega),Below.refl _ _⟩
 case round=>
  obtain ⟨k,z,rfl,rfl,hk,hsm,hb⟩:=hrel;have W:=hid hb;have SM:=hid hsm;clear hb hsm
  by_cases hlt:k<n
  · obtain ⟨b0,o0,s1,s2,s3,s4,rfl,hb0,l0,r0⟩:=lines_at H.out k hlt
    obtain ⟨L,hL⟩:∃L,xs.getD k LV.zero=L:=⟨_,rfl⟩;rw [hL] at r0;have R0:=vAb r0 (W.out.block b0 hb0);have c2:wr.cell? ⟨b0,o0+k * 17+2,none⟩=some (.string (str L.dev)):=R0 2 _ rfl;have c3:wr.cell? ⟨b0,o0+k * 17+3,none⟩=some (.string (str L.port)):=R0 3 _ rfl;have c4:wr.cell? ⟨b0,o0+k * 17+4,none⟩=some (.string (str L.peer)):=R0 4 _ rfl;have c5:wr.cell? ⟨b0,o0+k * 17+5,none⟩=some (.string (str L.far)):=R0 5 _ rfl
    have c6:wr.cell? ⟨b0,o0+k * 17+6,none⟩=some (.string (str L.name)):=R0 6 _ rfl;have c13:wr.cell? ⟨b0,o0+k * 17+13,none⟩=some (.slice s1.A s1.n s1.c):=R0 13 _ rfl;have c14:wr.cell? ⟨b0,o0+k * 17+14,none⟩=some (.slice s2.A s2.n s2.c):=R0 14 _ rfl;have c15:wr.cell? ⟨b0,o0+k * 17+15,none⟩=some (.slice s3.A s3.n s3.c):=R0 15 _ rfl;have c16:wr.cell? ⟨b0,o0+k * 17+16,none⟩=some (.slice s4.A s4.n s4.c):=R0 16 _ rfl
    have i1:(k:Int)<(n:Int):=by omega
    have LN:=hid (show nineZ L=([((str L.dev).size:Int),((str L.port).size:Int),((str L.peer).size:Int),((str L.far).size:Int),((str L.name).size:Int),(s1.n:Int),(s2.n:Int),(s3.n:Int),(s4.n:Int)]:List Int) from by rw [hL] at l0;unfold nineZ;rw [l0.1.len,l0.2.1.len,l0.2.2.1.len,l0.2.2.2.len]);have HL:=hid hL;clear l0 r0 R0 hL
    have KP:=hid (show ∀wx,Below wr.heap.size wr wx→wx.cell? ⟨b0,o0+k * 17+2,none⟩=some (.string (str L.dev))∧wx.cell? ⟨b0,o0+k * 17+3,none⟩=some (.string (str L.port))∧wx.cell? ⟨b0,o0+k * 17+4,none⟩=some (.string (str L.peer))∧wx.cell? ⟨b0,o0+k * 17+5,none⟩=some (.string (str L.far))∧wx.cell? ⟨b0,o0+k * 17+6,none⟩=some (.string (str L.name))∧wx.cell? ⟨b0,o0+k * 17+13,none⟩=some (.slice s1.A s1.n s1.c)∧wx.cell? ⟨b0,o0+k * 17+14,none⟩=some (.slice s2.A s2.n s2.c)∧wx.cell? ⟨b0,o0+k * 17+15,none⟩=some (.slice s3.A s3.n s3.c)∧wx.cell? ⟨b0,o0+k * 17+16,none⟩=some (.slice s4.A s4.n s4.c) from
     fun wx hx=>by
      have hbr:b0<wr.heap.size:=Nat.lt_of_lt_of_le hb0 W.out.size
      exact ⟨(hx.cell (p:=⟨b0,_,none⟩) hbr).trans c2,(hx.cell (p:=⟨b0,_,none⟩) hbr).trans c3,(hx.cell (p:=⟨b0,_,none⟩) hbr).trans c4,(hx.cell (p:=⟨b0,_,none⟩) hbr).trans c5,(hx.cell (p:=⟨b0,_,none⟩) hbr).trans c6,(hx.cell (p:=⟨b0,_,none⟩) hbr).trans c13,(hx.cell (p:=⟨b0,_,none⟩) hbr).trans c14,(hx.cell (p:=⟨b0,_,none⟩) hbr).trans c15,(hx.cell (p:=⟨b0,_,none⟩) hbr).trans c16⟩)
    clear c2 c3 c4 c5 c6 c13 c14 c15 c16;go_wp2;refine wp_region_makes (fun f wx=>Below wr.heap.size wr wx∧(f=true→NineI wx wr.heap.size (nineZ L))∧(f=false→wx.heap.size=wr.heap.size)) 54 (by kernel_rfl) (by kernel_rfl) (by decide) ⟨(Below.refl _ _).drew,fun h=>(by cases h),fun _=>rfl⟩ ?_
    repeat
     first
      |(refine SeqF.run ?_ rfl (by decide) (fun f wx hx=>?_) ?_
        rotate_left
        · obtain ⟨c2,c3,c4,c5,c6,c13,c14,c15,c16⟩:=KP.out wx hx.1
          go_simp
          refine StepRun.val ?_;exact hx
        simp only [Act.put,List.setIfInBounds_toArray,List.set_cons_zero,List.set_cons_succ])
    refine SeqF.make (.slice (some ⟨wr.heap.size,0,none⟩) 9 9) rfl rfl (fun wx hx=>?_) ?_
    · have hs:=hx.2.2 rfl
      go_simp
      exact ⟨rfl,hx.1.alloc (by omega) _,by rw [LN.out];exact nine_new wx _ _ _ _ _ _ _ _ _ _ hs⟩
    simp only [Act.put,List.setIfInBounds_toArray,List.set_cons_zero,List.set_cons_succ]
    repeat
     first
      |(refine SeqF.run ?_ rfl (by decide) (fun f wx hx=>?_) ?_
        rotate_left
        · obtain ⟨c2,c3,c4,c5,c6,c13,c14,c15,c16⟩:=KP.out wx hx.1
          go_simp
          refine StepRun.val ?_;exact hx
        simp only [Act.put,List.setIfInBounds_toArray,List.set_cons_zero,List.set_cons_succ])
    refine SeqF.last (fun w5 h5=>?_);have W5:=hid (vAa W.out h5.1);have NI:=hid (h5.2.1 rfl);clear h5;go_wp2
    go_loopw [3,72] (fun s j wq=>∃(jn:Nat) (z2:Int),j=.int .i64 jn∧s=.int .i64 z2∧jn≤9∧(∀i,i<jn→(nineZ L).getD i 0≤300)∧wq=w5) (fun _ j _=>match j with| .int _ x=>(9 - x).toNat|_=>0)
    case atStart=>exact ⟨0,z,rfl,rfl,by omega,fun i h=>absurd h (by omega),rfl⟩
    case round=>
     obtain ⟨jn,z2,rfl,rfl,hj,hle9,hwq⟩:=hrel;subst hwq;have L9:=hid hle9;clear hle9
     by_cases hj9:jn<9
     · have hz:=NI.out.2 jn hj9
       obtain ⟨zj,hzj⟩:∃zj,(nineZ L).getD jn 0=zj:=⟨_,rfl⟩;rw [hzj] at hz;have ZJ:=hid hzj;clear hzj
       have i2:(jn:Int)<9:=by omega
       by_cases h3:300<zj
       · go_wp2
         go_ret;exact ⟨true,rfl,fun e=>(by cases e),W5.out⟩
       · go_wp2
         go_roundw
         case rel=>exact ⟨jn+1,_,by simp,rfl,by omega,fun i hi=>(by
          by_cases e:i=jn
          · subst e;rw [ZJ.out];omega
          · exact L9.out i (by omega)),trivial⟩
         case measure=>simp only [];omega
     · have i2:¬(jn:Int)<9:=by omega
       go_wp2
       go_roundw
       case rel=>exact ⟨k+1,z2,by simp,rfl,by omega,fun j hj2=>(by
        by_cases e:j=k
        · subst e;rw [HL.out];exact nine_sm (fun i hi=>L9.out i (by omega))
        · exact SM.out j (by omega)),W5.out⟩
       case measure=>simp only [];omega
  · go_wp2
    go_ret;exact ⟨_,rfl,fun _=>⟨by omega,fun j hj=>SM.out j (by omega)⟩,W.out⟩
theorem wn_len {n:Int} (h:I64 n):(wnS n).length≤20:=itoa_len n h.1 h.2
theorem box_range {w:World} {p:Nat} {L:LV} {s1 s2 s3 s4:SlV} (h:BoxF w p 17 (lc L s1 s2 s3 s4)):w.rangeAt p 0 (vEk L s1 s2 s3 s4):=by
 intro j v hv;have hj:j<17:=(List.getElem?_eq_some_iff.1 hv).1;rw [Nat.zero_add,h.1 j hj]
 have:=lc_list L s1 s2 s3 s4 j hj (vEk L s1 s2 s3 s4).toArray rfl
 rw [List.toList_toArray] at this;exact this.symm.trans hv
theorem exec_lineput {ρ:Operand→Value} {o:Oper} {x y:Operand} {w:World} {p:Nat} {K:Value→World→Prop} (ho:o.op=.store 37 x y) (hx:ρ x=.pointer (some ⟨p,0,none⟩)) (L:LV) (s1 s2 s3 s4:SlV) (hy:ρ y=vBk L s1 s2 s3 s4) (g:Nat→Value) (hb:BoxF w p 17 g)
 (h:∀w9,BoxF w9 p 17 (lc L s1 s2 s3 s4)→Ex p w w9→K undef w9):RunI Tryz.prog K ((execOp ρ o).run Tryz.prog w):=by
 have hs:(vEk L s1 s2 s3 s4).toArray.size=17:=rfl;have ht:w.there p 0 (vEk L s1 s2 s3 s4).toArray.size:=there_all (fun j hj=>by rw [hb.1 j (by omega)];rfl) hb.2;have hr:=run_storeVar_mid (P:=Tryz.prog) w p 0 37 (vEk L s1 s2 s3 s4).toArray ht vGo (by simp [vEk,Value.oneCell']);unfold execOp;simp only [ho,hx,show ρ y=.agg (vEk L s1 s2 s3 s4).toArray from hy,Instr.storeAt,Instr.sureAddr,Sem.run_bind,Sem.run_pure,Result.andThen_ok,hr]
 refine h _ ⟨fun j hj=>?_,fun o=>by rw [World.frozen?_setCells];exact hb.2 o⟩ (Ex.cells _ 0 w w (Ex.refl _ _))
 have:=World.rangeAt_setCells_same w p 0 (vEk L s1 s2 s3 s4) (by simpa using ht) j (lc L s1 s2 s3 s4 j) (by have:=lc_list L s1 s2 s3 s4 j hj (vEk L s1 s2 s3 s4).toArray rfl;simpa using this)
 rwa [Nat.zero_add] at this
theorem vBg {w w':World} {M:LV} {t1 t2 t3 t4:SlV} (h:LRead w M t1 t2 t3 t4) (hb:Below w.heap.size w w'):LRead w' M t1 t2 t3 t4:=⟨h.1.below hb,h.2.1.below hb,h.2.2.1.below hb,h.2.2.2.below hb⟩
theorem isl_ex {w w':World} {k:IntKind} {q:Nat} {s:SlV} {xs:List Int} (h:ISl w k s.A s.n s.c xs) (g:Ex q w w') (ho:∀ad,s.A=some ad→0<s.n→ad.block≠q):ISl w' k s.A s.n s.c xs:=by
 refine ⟨h.1,h.2.1,h.2.2.1,fun hn=>?_⟩;obtain ⟨b,off,e,hb,hc⟩:=h.2.2.2 hn;exact ⟨b,off,e,Nat.lt_of_lt_of_le hb g.size,fun i hi=>(g.cell (off+i) hb (ho _ e hn)).trans (hc i hi)⟩
structure RgI (L M:LV) (E:Int) (ws:List (List UInt8)) (s1 s2 s3 s4:SlV) (w W:World) (A:Option Addr) (n c:Nat) (t1 t2 t3 t4:SlV) (q:Nat) (x3 x4 x27 x28 x29 x30 x31 x32 x33 x34:Value) (d:Nat→Bool) (w':World):Prop where
 h3:d 8=true→x3=.pointer (some ⟨q,0,none⟩)
 h4:d 10=true→x4=.int .i64 E
 h27:d 5=true→x27=.tuple #[vBk M t1 t2 t3 t4,.int .i64 E]
 h28:d 0=true→x28=vBk L s1 s2 s3 s4
 h29:d 1=true→x29=.slice A n c
 h30:d 2=true→x30=.pointer (some ⟨w.heap.size,0,none⟩)
 h31:d 3=true→x31=.int .i64 L.row
 h32:d 4=true→x32=.tuple #[vBk M t1 t2 t3 t4,.int .i64 E]
 h33:d 6=true→x33=vBk M t1 t2 t3 t4
 h34:d 7=true→x34=.int .i64 E
 k4:d 4=true→d 1=true
 k9:d 9=true→d 8=true
 k96:d 9=true→d 6=true
 k64:d 6=true→d 5=true
 k54:d 5=true→d 4=true
 k74:d 7=true→d 5=true
 r1:d 1=true→d 4=false→SSl w' A n c ws
 r4:d 4=true→LRead w' M t1 t2 t3 t4
 b8:d 8=true→W.heap.size≤q∧q<w'.heap.size∧BoxF w' q 17 (if d 9=true then lc M t1 t2 t3 t4 else lc LV.zero SlV.nil SlV.nil SlV.nil SlV.nil)
 b9:d 9=true→True
 b:Below W.heap.size W w'
 n8:d 8=true→d 4=true→(∀ad,t1.A=some ad→0<t1.n→ad.block≠q)∧(∀ad,t2.A=some ad→0<t2.n→ad.block≠q)∧(∀ad,t3.A=some ad→0<t3.n→ad.block≠q)∧∀ad,t4.A=some ad→0<t4.n→ad.block≠q
inductive RgW (L M:LV) (E:Int) (ws:List (List UInt8)) (s1 s2 s3 s4:SlV) (w W:World) (d:Nat→Bool):Act→World→Prop
 |mk (A:Option Addr) (n c:Nat) (t1 t2 t3 t4:SlV) (q:Nat) {x3 x4 x27 x28 x29 x30 x31 x32 x33 x34:Value} {w':World}:RgI L M E ws s1 s2 s3 s4 w W A n c t1 t2 t3 t4 q x3 x4 x27 x28 x29 x30 x31 x32 x33 x34 d w'→RgW L M E ws s1 s2 s3 s4 w W d {tmps:=#[.agg #[.int .i64 L.row,.int .i64 L.kind,.string (str L.dev),.string (str L.port),.string (str L.peer),.string (str L.far),.string (str L.name),.int .u64 L.mac,.int .u32 L.addr,.int .i64 L.bits,.int .i64 L.vlan,.int .i64 L.num,.int .i64 L.cost,.slice s1.A s1.n s1.c,.slice s2.A s2.n s2.c,.slice s3.A s3.n s3.c,.slice s4.A s4.n s4.c],.pointer (some ⟨w.heap.size,0,none⟩),.bool false,x3,x4,.pointer (some ⟨w.heap.size,13,none⟩),.slice s1.A s1.n s1.c,.int .i64 (s1.n:Int),.bool false,.bool false,.pointer (some ⟨w.heap.size,14,none⟩),.slice s2.A s2.n s2.c,.int .i64 (s2.n:Int),.bool false,.bool false,.bool false,.pointer (some ⟨w.heap.size,15,none⟩),.slice s3.A s3.n s3.c,.int .i64 (s3.n:Int),.bool false,.bool false,.bool false,.pointer (some ⟨w.heap.size,16,none⟩),.slice s4.A s4.n s4.c,.int .i64 (s4.n:Int),.bool false,.bool false,x27,x28,x29,x30,x31,x32,x33,x34,undef,undef,undef,undef,undef,undef,undef],defers:=[]} w'
theorem rrright_gen (L:LV) (s1 s2 s3 s4:SlV) (w:World) (h:LRead w L s1 s2 s3 s4) (hc:∀w',LRead w' L s1 s2 s3 s4→Calls Tryz.prog 165 #[vBk L s1 s2 s3 s4] w' (GotWs (wrW L) w')) (hn:∀p∈wrW L,p.length≤1000000):Calls Tryz.prog 107 #[vBk L s1 s2 s3 s4] w fun e w'=>e=.returned (.bool (rrB L))∧Below w.heap.size w w':=by
 have H:=hid h;have l1:=h.1.len;have l2:=h.2.1.len;have l3:=h.2.2.1.len;have l4:=h.2.2.2.len;have P0:=hid (vFv w L s1 s2 s3 s4 37);have CW:=hid hc;have WL:=hid hn;obtain ⟨ws,hws⟩:∃ws,wrW L=ws:=⟨_,rfl⟩;obtain ⟨E,hE⟩:∃E,rdE ws L.row=E:=⟨_,rfl⟩;obtain ⟨M,hM⟩:∃M,rdL ws L.row=M:=⟨_,rfl⟩;have RR:=hid (show rrB L=((decide (s1.n≤16) && (decide (s2.n≤16) && (decide (s3.n≤16) && decide (s4.n≤16)))) && (decide (E=0) && vFf L M)) by unfold rrB;rw [hws,hE,hM,l1,l2,l3,l4])
 obtain ⟨rr,hrr⟩:∃rr,rrB L=rr:=⟨_,rfl⟩;rw [hrr] at RR ⊢;rw [hws] at CW WL;have CR:=hid (fun A n c w' (hr:SSl w' A n c ws)=>rread_any A n c ws L.row w' hr WL.out);rw [hE,hM] at CR;have CS:=hid (fun w' t1 t2 t3 t4 (hr:LRead w' L s1 s2 s3 s4) (g:LRead w' M t1 t2 t3 t4)=>rsame_any L M s1 s2 s3 s4 t1 t2 t3 t4 w' hr g);clear h hc hn l1 l2 l3 l4 hws hE hM hrr WL;unfold GotWs at CW;unfold vCj at CR
 have H2:=H.out;have hle1:=H2.1.le;have hcap1:=H2.1.cap;have hle2:=H2.2.1.le;have hcap2:=H2.2.1.cap;have hle3:=H2.2.2.1.le;have hcap3:=H2.2.2.1.cap;have hle4:=H2.2.2.2.le;have hcap4:=H2.2.2.2.cap;clear H2;rw [show vBk L s1 s2 s3 s4=.agg #[.int .i64 L.row,.int .i64 L.kind,.string (str L.dev),.string (str L.port),.string (str L.peer),.string (str L.far),.string (str L.name),.int .u64 L.mac,.int .u32 L.addr,.int .i64 L.bits,.int .i64 L.vlan,.int .i64 L.num,.int .i64 L.cost,.slice s1.A s1.n s1.c,.slice s2.A s2.n s2.c,.slice s3.A s3.n s3.c,.slice s4.A s4.n s4.c] from rfl]
 go_enter Tryz.func107,Tryz.ntmps107
 go_upto_region 1 with fail
 obtain ⟨w1,hw1⟩:∃w1,w.alloc (.cells (lA L s1 s2 s3 s4) 37)=w1:=⟨_,rfl⟩;have B1:=hid (show Below w.heap.size w w1 by rw [←hw1];exact (Below.refl _ _).alloc (Nat.le_refl _) _);rw [hw1] at P0 ⊢;have Q0:=hid (show w.heap.size<w1.heap.size by rw [←hw1];simp);clear hw1;have c13:w1.cell? ⟨w.heap.size,13,none⟩=some (.slice s1.A s1.n s1.c):=P0.out.cell 13 (by omega);have c14:w1.cell? ⟨w.heap.size,14,none⟩=some (.slice s2.A s2.n s2.c):=P0.out.cell 14 (by omega)
 have c15:w1.cell? ⟨w.heap.size,15,none⟩=some (.slice s3.A s3.n s3.c):=P0.out.cell 15 (by omega);have c16:w1.cell? ⟨w.heap.size,16,none⟩=some (.slice s4.A s4.n s4.c):=P0.out.cell 16 (by omega)
 by_cases g1:s1.n≤16
 rotate_left
 · have E1:=hid (show rr=false by rw [RR.out,decide_eq_false g1];rfl)
   have lt1:(16:Int)<(s1.n:Int):=by omega
   clear g1;go_wp2;go_ret;exact ⟨by rw [E1.out];rfl,B1.out⟩
 have lt1:¬(16:Int)<(s1.n:Int):=by omega
 by_cases g2:s2.n≤16
 rotate_left
 · have E1:=hid (show rr=false by rw [RR.out,decide_eq_false g2,decide_eq_true g1];rfl)
   have lt2:(16:Int)<(s2.n:Int):=by omega
   clear g2;go_wp2;go_ret;exact ⟨by rw [E1.out];rfl,B1.out⟩
 have lt2:¬(16:Int)<(s2.n:Int):=by omega
 by_cases g3:s3.n≤16
 rotate_left
 · have E1:=hid (show rr=false by rw [RR.out,decide_eq_false g3,decide_eq_true g1,decide_eq_true g2];rfl)
   have lt3:(16:Int)<(s3.n:Int):=by omega
   clear g3;go_wp2;go_ret;exact ⟨by rw [E1.out];rfl,B1.out⟩
 have lt3:¬(16:Int)<(s3.n:Int):=by omega
 by_cases g4:s4.n≤16
 rotate_left
 · have E1:=hid (show rr=false by rw [RR.out,decide_eq_false g4,decide_eq_true g1,decide_eq_true g2,decide_eq_true g3];rfl)
   have lt4:(16:Int)<(s4.n:Int):=by omega
   clear g4;go_wp2;go_ret;exact ⟨by rw [E1.out];rfl,B1.out⟩
 have lt4:¬(16:Int)<(s4.n:Int):=by omega
 have RR:=hid (show rr=(decide (E=0) && vFf L M) by rw [RR.out,decide_eq_true g1,decide_eq_true g2,decide_eq_true g3,decide_eq_true g4];rfl);clear g1 g2 g3 g4
 go_upto_region 3 with fail
 have W_:=hid (show ∀wx,Below w1.heap.size w1 wx→(wx.cell? ⟨w.heap.size,0,none⟩=some (.int .i64 L.row))∧BoxF wx w.heap.size 17 (lc L s1 s2 s3 s4)∧LRead wx L s1 s2 s3 s4∧Below w.heap.size w wx from fun wx hx=>by
  have bx:=P0.out.below (by omega) hx
  exact ⟨bx.cell 0 (by omega),bx,⟨H.out.1.below (B1.out.trans (hx.mono B1.out.size)),H.out.2.1.below (B1.out.trans (hx.mono B1.out.size)),H.out.2.2.1.below (B1.out.trans (hx.mono B1.out.size)),H.out.2.2.2.below (B1.out.trans (hx.mono B1.out.size))⟩,B1.out.trans (hx.mono B1.out.size)⟩)
 clear c13 c14 c15 c16;refine vCr (RgW L M E ws s1 s2 s3 s4 w w1) (by kernel_rfl) (by kernel_rfl) ?_ ?_ ?_
 · refine RgW.mk none 0 0 SlV.nil SlV.nil SlV.nil SlV.nil 0 ?_
   constructor
   case b=>exact (Below.refl _ _).drew
   all_goals first|exact fun h=>by cases h|exact fun h _=>by cases h
 · rintro d a w' j o @⟨A,n,c,t1,t2,t3,t4,q,x3,x4,x27,x28,x29,x30,x31,x32,x33,x34,_,hv⟩ ho hd hdep
   obtain ⟨h3,h4,h27,h28,h29,h30,h31,h32,h33,h34,k4,k9,k96,k64,k54,k74,r1,r4,b8,b9,b,n8⟩:=hv;have K_:=W_.out w' b
   rcases j with _|_|_|_|_|_|_|_|_|_|_|j
   · cases ho
     refine .inl ⟨rfl,?_⟩;rw [run_op_line (box_range K_.2.1) rfl rfl];refine RgW.mk A n c t1 t2 t3 t4 q ?_
     constructor
     all_goals first|assumption|exact fun _=>rfl|exact fun _=>trivial
   · cases ho
     have e0_:=hdep 0 (by kernel_rfl);obtain rfl:=h28 e0_
     have e8:∀i,d i=true→d i=true:=fun _ h=>h
     have e4:d 4=false:=by
      cases hx:d 4 with
      |false=>rfl
      |true=>have:=k4 hx;rw [hd] at this;cases this
     refine .inl ⟨rfl,?_⟩
     go_simp
     refine (CW.out _ K_.2.2.1).mono ?_;rintro e w2 ⟨A2,n2,c2,rfl,hr,hb⟩;refine ⟨_,rfl,?_⟩;refine RgW.mk A2 n2 c2 t1 t2 t3 t4 q ?_
     constructor
     case k4=>exact fun _=>by simp
     case r1=>exact fun _ _=>hr
     case r4=>exact fun h=>by simp [e4] at h
     case b8=>exact fun h=>by have g:=b8 (by simpa using h);exact ⟨g.1,Nat.lt_of_lt_of_le g.2.1 hb.size,by simpa using g.2.2.below (by omega) hb⟩
     case b=>exact vAa b hb
     all_goals first|assumption|exact fun _=>rfl|exact fun _=>trivial
   · cases ho
     refine .inl ⟨rfl,?_⟩
     go_simp
     refine RgW.mk A n c t1 t2 t3 t4 q ?_
     constructor
     all_goals first|assumption|exact fun _=>rfl|exact fun _=>trivial
   · cases ho
     have e2_:=hdep 2 (by kernel_rfl);obtain rfl:=h30 e2_;have c0:=K_.1;refine .inl ⟨rfl,?_⟩
     go_simp
     refine RgW.mk A n c t1 t2 t3 t4 q ?_
     constructor
     all_goals first|assumption|exact fun _=>rfl|exact fun _=>trivial
   · cases ho
     have e1_:=hdep 1 (by kernel_rfl);obtain rfl:=h29 e1_;have e3_:=hdep 3 (by kernel_rfl);obtain rfl:=h31 e3_
     have e5:d 5=false:=by
      cases hx:d 5 with
      |false=>rfl
      |true=>have:=k54 hx;rw [hd] at this;cases this
     have e6:d 6=false:=by
      cases hx:d 6 with
      |false=>rfl
      |true=>have:=k64 hx;rw [e5] at this;cases this
     have e9:d 9=false:=by
      cases hx:d 9 with
      |false=>rfl
      |true=>have:=k96 hx;rw [e6] at this;cases this
     refine .inl ⟨rfl,?_⟩
     go_simp
     refine (CR.out A n c _ (r1 e1_ hd)).mono ?_;rintro e w2 ⟨u1,u2,u3,u4,rfl,hr,hn,hb⟩;refine ⟨_,rfl,?_⟩;refine RgW.mk A n c u1 u2 u3 u4 q ?_
     constructor
     case h27=>exact fun h=>by simp [e5] at h
     case h33=>exact fun h=>by simp [e6] at h
     case k4=>exact fun _=>by simpa using e1_
     case k54=>exact fun _=>by simp
     case r1=>exact fun _ g=>by simp at g
     case r4=>exact fun _=>hr
     case b8=>exact fun h=>by have g:=b8 (by simpa using h);have e9:d 9=false:=e9;exact ⟨g.1,Nat.lt_of_lt_of_le g.2.1 hb.size,by have:=g.2.2.below (by omega) hb;simpa [e9] using this⟩
     case b=>exact vAa b hb
     case n8=>exact fun h _=>by have g:=b8 (by simpa using h);exact ⟨fun ad e _=>by have:=hn.1 ad e;omega,fun ad e _=>by have:=hn.2.1 ad e;omega,fun ad e _=>by have:=hn.2.2.1 ad e;omega,fun ad e _=>by have:=hn.2.2.2 ad e;omega⟩
     all_goals first|assumption|exact fun _=>rfl|exact fun _=>trivial
   · cases ho
     have e4_:=hdep 4 (by kernel_rfl);obtain rfl:=h32 e4_;refine .inl ⟨rfl,?_⟩
     go_simp
     refine RgW.mk A n c t1 t2 t3 t4 q ?_
     constructor
     case k64=>exact fun _=>by simp
     case k54=>exact fun _=>by simpa using e4_
     case k74=>exact fun _=>by simp
     all_goals first|assumption|exact fun _=>rfl|exact fun _=>trivial
   · cases ho
     have e5_:=hdep 5 (by kernel_rfl);obtain rfl:=h27 e5_;refine .inl ⟨rfl,?_⟩
     go_simp
     refine RgW.mk A n c t1 t2 t3 t4 q ?_
     constructor
     case k96=>exact fun _=>by simp
     case k64=>exact fun _=>by simpa using e5_
     all_goals first|assumption|exact fun _=>rfl|exact fun _=>trivial
   · cases ho
     have e5_:=hdep 5 (by kernel_rfl);obtain rfl:=h27 e5_;refine .inl ⟨rfl,?_⟩
     go_simp
     refine RgW.mk A n c t1 t2 t3 t4 q ?_
     constructor
     case k74=>exact fun _=>by simpa using e5_
     all_goals first|assumption|exact fun _=>rfl|exact fun _=>trivial
   · cases ho
     have e9:d 9=false:=by
      cases hx:d 9 with
      |false=>rfl
      |true=>have:=k9 hx;rw [hd] at this;cases this
     refine .inl ⟨rfl,?_⟩;rw [alloc_line _ _ rfl];refine RgW.mk A n c t1 t2 t3 t4 w'.heap.size ?_
     constructor
     case k9=>exact fun _=>by simp
     case r1=>exact fun h g=>(r1 (by simpa using h) (by simpa using g)).below ((Below.refl _ _).alloc (Nat.le_refl _) _)
     case r4=>exact fun h=>vBg (r4 (by simpa using h)) ((Below.refl _ _).alloc (Nat.le_refl _) _)
     case b8=>exact fun _=>⟨b.size,by simp,by have:=vBt w' 37;simpa [e9] using this⟩
     case b=>exact b.alloc b.size _
     case n8=>exact fun _ g=>by have r:=r4 (by simpa using g);exact ⟨fun ad e h=>Nat.ne_of_lt (lt_isl (s:=t1) r.1 ad e h),fun ad e h=>Nat.ne_of_lt (lt_isl (s:=t2) r.2.1 ad e h),fun ad e h=>Nat.ne_of_lt (lt_isl (s:=t3) r.2.2.1 ad e h),fun ad e h=>Nat.ne_of_lt (lt_isl (s:=t4) r.2.2.2 ad e h)⟩
     all_goals first|assumption|exact fun _=>rfl|exact fun _=>trivial
   · cases ho
     have e8_:=hdep 8 (by kernel_rfl);obtain rfl:=h3 e8_;have e6_:=hdep 6 (by kernel_rfl);obtain rfl:=h33 e6_;have g:=b8 e8_;rw [hd] at g;simp only [Bool.false_eq_true,if_false] at g;have e5_:=k64 e6_;have e4_:=k54 e5_;have r:=r4 e4_;have nn:=n8 e8_ e4_;refine .inl ⟨rfl,?_⟩;refine exec_lineput rfl rfl M t1 t2 t3 t4 rfl _ g.2.2 (fun w9 b9_ x9=>?_);have R4_:LRead w9 M t1 t2 t3 t4:=⟨isl_ex (s:=t1) r.1 x9 nn.1,isl_ex (s:=t2) r.2.1 x9 nn.2.1,isl_ex (s:=t3) r.2.2.1 x9 nn.2.2.1,isl_ex (s:=t4) r.2.2.2 x9 nn.2.2.2⟩
     refine RgW.mk A n c t1 t2 t3 t4 q ?_
     constructor
     case k9=>exact fun _=>by simpa using e8_
     case k96=>exact fun _=>by simpa using e6_
     case r1=>exact fun _ g=>by simp [e4_] at g
     case r4=>exact fun h=>R4_
     case b8=>exact fun _=>⟨g.1,Nat.lt_of_lt_of_le g.2.1 x9.size,by simpa using b9_⟩
     case b=>exact Below.ex b x9 g.1 b.size
     all_goals first|assumption|exact fun _=>rfl|exact fun _=>trivial
   · cases ho
     have e7_:=hdep 7 (by kernel_rfl);obtain rfl:=h34 e7_;refine .inl ⟨rfl,?_⟩
     go_simp
     refine RgW.mk A n c t1 t2 t3 t4 q ?_
     constructor
     all_goals first|assumption|exact fun _=>rfl|exact fun _=>trivial
   · simp at ho
 · rintro d a w' @⟨A,n,c,t1,t2,t3,t4,q,x3,x4,x27,x28,x29,x30,x31,x32,x33,x34,_,hv⟩ hall
   obtain ⟨h3,h4,h27,h28,h29,h30,h31,h32,h33,h34,k4,k9,k96,k64,k54,k74,r1,r4,b8,b9,b,n8⟩:=hv;have e8:=hall 8 (by decide);have e4:=hall 4 (by decide);have e9:=hall 9 (by decide);obtain rfl:=h3 e8;obtain rfl:=h4 (hall 10 (by decide));have BX:=hid (b8 e8);rw [e9] at BX;simp only [if_true] at BX;have R4:=hid (r4 e4);have K1:=hid (W_.out w' b);clear h27 h28 h29 h30 h31 h32 h33 h34 k4 k9 k96 k64 k54 k74 r1 r4 b8 b9 b n8 hall e8 e4 e9
   have z13:=0
   by_cases eE:E=0
   · have y1:(E == 0)=true:=by simpa using eE
     have RF:=hid (show rr=vFf L M by rw [RR.out,decide_eq_true eE,Bool.true_and]);clear eE z13
     go_wp2_with (first
      |((with_reducible refine vAk ?hg (.tmp 1) ?ho w.heap.size ?hx L s1 s2 s3 s4 K1.out.2.1 ?_);(case hg=>rfl);(case ho=>rfl);(case hx=>rfl))
      |((with_reducible refine vAk ?hg (.tmp 3) ?ho q ?hx M t1 t2 t3 t4 BX.out.2.2 ?_);(case hg=>rfl);(case ho=>rfl);(case hx=>rfl))
      |(go_at_call 166;(with_reducible refine (CS.out _ t1 t2 t3 t4 K1.out.2.2.1 R4.out).mono ?_);rintro e w5 ⟨rfl,hb5⟩))
     go_ret;exact ⟨by rw [RF.out];rfl,vAa K1.out.2.2.2 hb5⟩
   · have y1:(E == 0)=false:=by simpa using eE
     have RF:=hid (show rr=false by rw [RR.out,decide_eq_false eE,Bool.false_and]);clear eE z13;go_wp2;go_ret;exact ⟨by rw [RF.out];rfl,K1.out.2.2.2⟩
end Go.Proofs.YtkpbbfehglihlaaGreatDoor
