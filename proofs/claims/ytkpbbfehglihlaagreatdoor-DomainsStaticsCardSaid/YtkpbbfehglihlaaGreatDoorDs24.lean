import Derived.Test.YtkpbbfehglihlaaGreatDoorDs23
import Derived.Test.YtkpbbfehglihlaaGreatDoorDs12
import Derived.Test.YtkpbbfehglihlaaGreatDoorDs01
import Derived.Great.BuildSlice
set_option maxRecDepth 100000
set_option maxHeartbeats 40000000
namespace Go.Proofs.YtkpbbfehglihlaaGreatDoor
open Go.Lib (hid)
open Go.RowKit
theorem fm_lt (ws:List (List UInt8)):∀c∈fmV ws,Lt c:=by
 unfold fmV Lt
 by_cases h0:ws=[]
 · rw [if_pos h0];intro c hc;cases hc
 rw [if_neg h0]
 by_cases h1:kdV (wat ws 0)=1
 · rw [if_pos h1];decide
 rw [if_neg h1]
 by_cases h3:kdV (wat ws 0)=3
 · rw [if_pos h3];decide
 rw [if_neg h3]
 by_cases h4:kdV (wat ws 0)=4
 · rw [if_pos h4];decide
 rw [if_neg h4]
 by_cases h5:kdV (wat ws 0)=5
 · rw [if_pos h5];decide
 rw [if_neg h5]
 by_cases h6:kdV (wat ws 0)=6
 · rw [if_pos h6];decide
 rw [if_neg h6]
 by_cases h7:kdV (wat ws 0)=7
 · rw [if_pos h7];decide
 rw [if_neg h7]
 by_cases h8:kdV (wat ws 0)=8
 · rw [if_pos h8];decide
 rw [if_neg h8]
 by_cases h9:kdV (wat ws 0)=9
 · rw [if_pos h9];decide
 rw [if_neg h9]
 by_cases h2:kdV (wat ws 0)=2
 · rw [if_pos h2]
   by_cases g:ws.length=7∧¬wat ws 4=vAt
   · rw [if_pos g];decide
   rw [if_neg g]
   by_cases g2:ws.length=6∧¬wat ws 4=vBd
   · rw [if_pos g2];decide
   rw [if_neg g2];intro c hc;cases hc
 · rw [if_neg h2];intro c hc;cases hc
theorem runS_at {f:List UInt8} {ws:List (List UInt8)} {i kn:Nat} {L:LV} (h:i<f.length) (g:i+1<ws.length):
 vCf (f.drop i) (ws.drop (i+1)) kn L=if wdE (f.getD i 0) (wat ws (i+1))=0 then vCf (f.drop (i+1)) (ws.drop (i+1+1)) (if f.getD i 0=78 then kn+1 else kn) (wdL (f.getD i 0) (wat ws (i+1)) kn L) else (wdE (f.getD i 0) (wat ws (i+1)),L):=by
 have e1:f.drop i=f.getD i 0 :: f.drop (i+1):=by rw [List.drop_eq_getElem_cons h];simp [List.getD,List.getElem?_eq_getElem h]
 have e2:ws.drop (i+1)=wat ws (i+1) :: ws.drop (i+1+1):=by rw [List.drop_eq_getElem_cons g];simp [wat,List.getD,List.getElem?_eq_getElem g]
 rw [e1,e2,vCf]
theorem runS_end {f:List UInt8} {ws:List (List UInt8)} {i kn:Nat} {L:LV} (h:f.length≤i):vCf (f.drop i) ws kn L=(0,L):=by
 rw [List.drop_eq_nil_of_le h]
 cases ws<;>rfl
def put17 (w:World) (q:Nat) (f:Nat→Value):World:=
 ((((((((((((((((w.setCell ⟨q,0,none⟩ (f 0)).setCell ⟨q,1,none⟩ (f 1)).setCell ⟨q,2,none⟩ (f 2)).setCell ⟨q,3,none⟩ (f 3)).setCell ⟨q,4,none⟩ (f 4)).setCell ⟨q,5,none⟩ (f 5)).setCell ⟨q,6,none⟩ (f 6)).setCell ⟨q,7,none⟩ (f 7)).setCell ⟨q,8,none⟩ (f 8)).setCell ⟨q,9,none⟩ (f 9)).setCell ⟨q,10,none⟩ (f 10)).setCell ⟨q,11,none⟩ (f 11)).setCell ⟨q,12,none⟩ (f 12)).setCell ⟨q,13,none⟩ (f 13)).setCell ⟨q,14,none⟩ (f 14)).setCell ⟨q,15,none⟩ (f 15)).setCell ⟨q,16,none⟩ (f 16)
theorem put17_box {w:World} {q:Nat} {f g:Nat→Value} (h:BoxF w q 17 g):BoxF (put17 w q f) q 17 f:=by
 unfold put17;have H:=((((((((((((((((h.set 0 (by omega) (f 0)).set 1 (by omega) (f 1)).set 2 (by omega) (f 2)).set 3 (by omega) (f 3)).set 4 (by omega) (f 4)).set 5 (by omega) (f 5)).set 6 (by omega) (f 6)).set 7 (by omega) (f 7)).set 8 (by omega) (f 8)).set 9 (by omega) (f 9)).set 10 (by omega) (f 10)).set 11 (by omega) (f 11)).set 12 (by omega) (f 12)).set 13 (by omega) (f 13)).set 14 (by omega) (f 14)).set 15 (by omega) (f 15)).set 16 (by omega) (f 16)
 exact H.is (fun i hi=>match i,hi with|0,_|1,_|2,_|3,_|4,_|5,_|6,_|7,_|8,_|9,_|10,_|11,_|12,_|13,_|14,_|15,_|16,_=>rfl|i+17,h=>absurd h (by omega))
def LNew (B:Nat) (s1 s2 s3 s4:SlV):Prop:=(∀ad,s1.A=some ad→B≤ad.block)∧(∀ad,s2.A=some ad→B≤ad.block)∧(∀ad,s3.A=some ad→B≤ad.block)∧∀ad,s4.A=some ad→B≤ad.block
theorem LNew.nil (B:Nat):LNew B SlV.nil SlV.nil SlV.nil SlV.nil:=⟨fun _ h=>(by cases h),fun _ h=>(by cases h),fun _ h=>(by cases h),fun _ h=>(by cases h)⟩
theorem LBox.new {w:World} {q B:Nat} {L:LV} {s1 s2 s3 s4:SlV} (h:LBox w q L s1 s2 s3 s4) (hB:B≤q):LNew B s1 s2 s3 s4:=by
 have key:∀(k:IntKind) (s:SlV) (xs:List Int),FSl w q k s xs→∀ad,s.A=some ad→B≤ad.block:=fun k s xs f ad e=>Nat.le_of_lt (Nat.lt_of_le_of_lt hB (f.2 ad e))
 exact ⟨key _ _ _ h.2.1,key _ _ _ h.2.2.1,key _ _ _ h.2.2.2.1,key _ _ _ h.2.2.2.2⟩
def vCj (w:World) (L:LV) (E:Int) (e:Ending) (w':World):Prop:=
 ∃s1 s2 s3 s4,e=.returned (.tuple #[vBk L s1 s2 s3 s4,.int .i64 E])∧LRead w' L s1 s2 s3 s4∧LNew w.heap.size s1 s2 s3 s4∧Below w.heap.size w w'
theorem vAo (tmps:Array Value) (w:World) (q:Nat) (E:Int) (L:LV) (s1 s2 s3 s4:SlV) (h4:tmps[4]?.getD undef=.pointer (some ⟨q,0,none⟩)) (h5:tmps[5]?.getD undef=.int .i64 E) (hb:BoxF w q 17 (lc L s1 s2 s3 s4)):
 (results Tryz.f164 tmps).run Tryz.prog w=.ok (.tuple #[vBk L s1 s2 s3 s4,.int .i64 E]) w:=by
 have t0:w.cell? ⟨q,0,none⟩=some (.int .i64 L.row):=hb.cell 0 (by omega);have t1:w.cell? ⟨q,1,none⟩=some (.int .i64 L.kind):=hb.cell 1 (by omega);have t2:w.cell? ⟨q,2,none⟩=some (.string (str L.dev)):=hb.cell 2 (by omega);have t3:w.cell? ⟨q,3,none⟩=some (.string (str L.port)):=hb.cell 3 (by omega);have t4:w.cell? ⟨q,4,none⟩=some (.string (str L.peer)):=hb.cell 4 (by omega);have t5:w.cell? ⟨q,5,none⟩=some (.string (str L.far)):=hb.cell 5 (by omega)
 have t6:w.cell? ⟨q,6,none⟩=some (.string (str L.name)):=hb.cell 6 (by omega);have t7:w.cell? ⟨q,7,none⟩=some (.int .u64 L.mac):=hb.cell 7 (by omega);have t8:w.cell? ⟨q,8,none⟩=some (.int .u32 L.addr):=hb.cell 8 (by omega);have t9:w.cell? ⟨q,9,none⟩=some (.int .i64 L.bits):=hb.cell 9 (by omega);have t10:w.cell? ⟨q,10,none⟩=some (.int .i64 L.vlan):=hb.cell 10 (by omega);have t11:w.cell? ⟨q,11,none⟩=some (.int .i64 L.num):=hb.cell 11 (by omega)
 have t12:w.cell? ⟨q,12,none⟩=some (.int .i64 L.cost):=hb.cell 12 (by omega);have t13:w.cell? ⟨q,13,none⟩=some (.slice s1.A s1.n s1.c):=hb.cell 13 (by omega);have t14:w.cell? ⟨q,14,none⟩=some (.slice s2.A s2.n s2.c):=hb.cell 14 (by omega);have t15:w.cell? ⟨q,15,none⟩=some (.slice s3.A s3.n s3.c):=hb.cell 15 (by omega);have t16:w.cell? ⟨q,16,none⟩=some (.slice s4.A s4.n s4.c):=hb.cell 16 (by omega)
 clear hb;simp [results,Tryz.results164,go_sem,h4,h5,t0,t1,t2,t3,t4,t5,t6,t7,t8,t9,t10,t11,t12,t13,t14,t15,t16,vBk]
theorem new_box (w:World) (row kind:Int) (T:TypeId):BoxF (w.alloc (.cells #[.int .i64 row,.int .i64 kind,.string ⟨#[]⟩,.string ⟨#[]⟩,.string ⟨#[]⟩,.string ⟨#[]⟩,.string ⟨#[]⟩,.int .u64 0,.int .u32 0,.int .i64 0,.int .i64 0,.int .i64 0,.int .i64 0,.slice none 0 0,.slice none 0 0,.slice none 0 0,.slice none 0 0] T)) w.heap.size 17 (lc (LV.new row kind) SlV.nil SlV.nil SlV.nil SlV.nil):=by
 refine ⟨fun j hj=>?_,fun o=>by simp⟩
 match j,hj with
 |0,_|1,_|2,_|3,_|4,_|5,_|6,_|7,_|8,_|9,_|10,_|11,_|12,_|13,_|14,_|15,_|16,_=>simp [lc,LV.new,SlV.nil,SlV.val,str]
 |j+17,h=>exact absurd h (by omega)
def NSl (w:World) (F:Nat→Prop) (k:IntKind) (s:SlV) (xs:List Int):Prop:=ISl w k s.A s.n s.c xs∧(0<s.n→∀ad,s.A=some ad→F ad.block)
theorem NSl.keep {w w':World} {F F':Nat→Prop} {k:IntKind} {s:SlV} {xs:List Int} (h:NSl w F k s xs) (hb:∀b,F b→w'.heap[b]?=w.heap[b]?) (hF:∀b,F b→F' b):NSl w' F' k s xs:=by
 refine ⟨⟨h.1.1,h.1.2.1,h.1.2.2.1,fun hn=>?_⟩,fun hn ad e=>hF _ (h.2 hn ad e)⟩;obtain ⟨b,off,e,hl,hc⟩:=h.1.2.2.2 hn;have hb2:=hb b (h.2 hn _ e);exact ⟨b,off,e,vHp hb2 hl,fun j hj=>(World.cell?_of_block (w:=w) (a:=⟨b,off+j,none⟩) hb2).trans (hc j hj)⟩
def vEk (L:LV) (s1 s2 s3 s4:SlV):List Value:=[.int .i64 L.row,.int .i64 L.kind,.string (str L.dev),.string (str L.port),.string (str L.peer),.string (str L.far),.string (str L.name),.int .u64 L.mac,.int .u32 L.addr,.int .i64 L.bits,.int .i64 L.vlan,.int .i64 L.num,.int .i64 L.cost,.slice s1.A s1.n s1.c,.slice s2.A s2.n s2.c,.slice s3.A s3.n s3.c,.slice s4.A s4.n s4.c]
def lineR:Rdr LV where
 n:=17
 rd:=fun w F vs L=>∃s1 s2 s3 s4,vs=vEk L s1 s2 s3 s4∧NSl w F .i64 s1 L.tagged∧NSl w F .i64 s2 L.imports∧NSl w F .i64 s3 L.exports∧NSl w F .u32 s4 L.addrs
 len:=by rintro w F vs L ⟨s1,s2,s3,s4,rfl,_⟩;rfl
 one:=by rintro w F vs L ⟨s1,s2,s3,s4,rfl,_⟩ v hv;simp [vEk] at hv;rcases hv with rfl|rfl|rfl|rfl|rfl|rfl|rfl|rfl|rfl|rfl|rfl|rfl|rfl|rfl|rfl|rfl|rfl<;>rfl
 keep:=by rintro w w' F F' vs L ⟨s1,s2,s3,s4,rfl,h1,h2,h3,h4⟩ hb hF;exact ⟨s1,s2,s3,s4,rfl,h1.keep hb hF,h2.keep hb hF,h3.keep hb hF,h4.keep hb hF⟩
theorem line_read {w:World} {F:Nat→Prop} {vs:List Value} {L:LV} (h:lineR.rd w F vs L):∃s1 s2 s3 s4,vs=vEk L s1 s2 s3 s4∧LRead w L s1 s2 s3 s4:=by
 obtain ⟨s1,s2,s3,s4,rfl,h1,h2,h3,h4⟩:=h;exact ⟨s1,s2,s3,s4,rfl,h1.1,h2.1,h3.1,h4.1⟩
theorem Tryz.info37:(Tryz.prog.info? 37).map (fun i=>(i.zero,i.size))=some (some (vBk LV.zero SlV.nil SlV.nil SlV.nil SlV.nil),17):=by kernel_rfl
theorem rread_run (A:Option Addr) (n c:Nat) (ws:List (List UInt8)) (row:Int) (w:World) (h:SSl w A n c ws) (hs:∀p∈ws,p.length≤1000000) (f:¬fmV ws=[]) (f2:n=(fmV ws).length+1)
 (KV:Int) (hKV:kdV (wat ws 0)=KV) (RR:Int×LV) (hRR:vCf (fmV ws) (ws.drop 1) 0 (LV.new row KV)=RR) (EV:Int) (hEV:(if RR.1=0 then (if RR.2.kind=2∧mbB RR.2=false then 21 else 0) else RR.1)=EV):
 Calls Tryz.prog 164 #[.slice A n c,.int .i64 row] w (vCj w (if EV=0 then RR.2 else LV.zero) EV):=by
 obtain ⟨M,hM⟩:∃M,(if EV=0 then RR.2 else LV.zero)=M:=⟨_,rfl⟩;rw [hM];have HM:=hid hM;clear hM;have hle:=h.le;have hcap:=h.cap;have hlen:=h.len;have H:=hid h;obtain ⟨b,off,rfl,hb,hc⟩:=h.at_ (by omega);have HC:=hid hc;have c0:w.cell? ⟨b,off,none⟩=some (.string (str (wat ws 0))):=hc 0 (by omega);have CF:=hid (fun w h=>vCc (some ⟨b,off,none⟩) n c ws w h);have CK:=hid (fun w=>kind_any (wat ws 0) w)
 have LT:=hid (fm_lt ws);have HS:=hid hs;rw [hKV] at CK
 have d1:(fmV ws == ([]:List UInt8))=false:=by simpa using f
 have d2:((n:Int) != ((fmV ws).length:Int)+1)=false:=by simp;omega
 have hF:(fmV ws).length+1=n:=f2.symm
 have j0:(0:Int)<(n:Int):=by omega
 have hRRh:=hid hRR;have hEVh:=hid hEV;have RA:=hid (fun (k kn:Nat) (L:LV) (hk:k<(fmV ws).length)=>runS_at (f:=fmV ws) (ws:=ws) (i:=k) (kn:=kn) (L:=L) hk (by omega));generalize fmV ws=F at *;generalize wat ws 0=w0 at *;clear h hc hs f f2 hKV hRR hEV;have ZB:=hid (vBt w 37)
 go_enter Tryz.func164,Tryz.ntmps164
 go_wp2_with (first
  |(go_at_call 180;(with_reducible refine (CF.out _ (H.out.alloc _)).mono ?_);rintro e w1 ⟨rfl,rfl⟩)
  |(go_at_call 181;(with_reducible refine (CK.out _).mono ?_);rintro e w2 ⟨rfl,hb2⟩;have B2:=hid hb2;clear hb2))
 have hz0:=hid (show w.heap.size<w2.heap.size from Nat.lt_of_lt_of_le (by simp) B2.out.size);have LB:=hid (show LBox (w2.alloc (.cells #[.int .i64 row,.int .i64 KV,.string ⟨#[]⟩,.string ⟨#[]⟩,.string ⟨#[]⟩,.string ⟨#[]⟩,.string ⟨#[]⟩,.int .u64 0,.int .u32 0,.int .i64 0,.int .i64 0,.int .i64 0,.int .i64 0,.slice none 0 0,.slice none 0 0,.slice none 0 0,.slice none 0 0] 37)) w2.heap.size (LV.new row KV) SlV.nil SlV.nil SlV.nil SlV.nil from ⟨new_box w2 row KV _,FSl.nil,FSl.nil,FSl.nil,FSl.nil⟩)
 have WB:=hid (show Below w2.heap.size w2 (w2.alloc (.cells #[.int .i64 row,.int .i64 KV,.string ⟨#[]⟩,.string ⟨#[]⟩,.string ⟨#[]⟩,.string ⟨#[]⟩,.string ⟨#[]⟩,.int .u64 0,.int .u32 0,.int .i64 0,.int .i64 0,.int .i64 0,.int .i64 0,.slice none 0 0,.slice none 0 0,.slice none 0 0,.slice none 0 0] 37)) from (Below.refl _ _).alloc (Nat.le_refl _) _);generalize w2.alloc (.cells #[.int .i64 row,.int .i64 KV,.string ⟨#[]⟩,.string ⟨#[]⟩,.string ⟨#[]⟩,.string ⟨#[]⟩,.string ⟨#[]⟩,.int .u64 0,.int .u32 0,.int .i64 0,.int .i64 0,.int .i64 0,.int .i64 0,.slice none 0 0,.slice none 0 0,.slice none 0 0,.slice none 0 0] 37)=W3 at *
 have B3:=hid (vAa B2.out WB.out);have ZB3:=hid (ZB.out.below (by omega) B3.out);have BW:=hid (vBw B3.out);have S3:=hid (fun j hj=>(BW.out.cell (p:=⟨b,off+j,none⟩) hb).trans (HC.out j hj));have hq3:=hid (LB.out.lt)
 go_loopw [8,9] (fun nm i wr=>∃(k kn:Nat) (L:LV) (s1 s2 s3 s4:SlV),k≤F.length∧i=.int .i64 (k:Int)∧nm=.int .i64 (kn:Int)∧kn≤k∧LBox wr w2.heap.size L s1 s2 s3 s4∧Ex w2.heap.size W3 wr∧vCf (F.drop k) (ws.drop (k+1)) kn L=RR) (fun _ i _=>F.length - (intOf i).toNat)
 case atStart=>exact ⟨0,0,_,_,_,_,_,by omega,rfl,rfl,by omega,LB.out,Ex.refl _ _,hRRh.out⟩
 case round=>
  obtain ⟨k,kn,L,s1,s2,s3,s4,hk,rfl,rfl,hkn,hlb,hex,hrun⟩:=hrel;have HR:=hid hrun;have HB:=hid hlb;have HX:=hid hex;clear hrun
  by_cases hlt:k<F.length
  · have hmem:F.getD k 0∈F:=by
     simp [List.getD,List.getElem?_eq_getElem hlt]
    have hl5:=LT.out _ hmem
    have hk1:k+1<ws.length:=by omega
    have hsl:(wat ws (k+1)).length≤1000000:=HS.out _ (by
     unfold wat
     simp [List.getD,List.getElem?_eq_getElem hk1])
    have hX:sb (str F) k=((F.getD k 0).toNat:Int):=by simp [sb]
    have hb3:b<W3.heap.size:=Nat.lt_of_lt_of_le hb BW.out.size
    have hne:b≠w2.heap.size:=by have:=hz0.out;omega
    have cW:wr.cell? ⟨b,off+(k+1),none⟩=some (.string (str (wat ws (k+1)))):=(HX.out.cell (off+(k+1)) hb3 hne).trans (S3.out (k+1) (by omega));have HK:=hid (HR.out.symm.trans (RA.out k kn L hlt));have CW:=hid (fun w h=>rword_any (F.getD k 0) hl5 (sb (str F) k) hX (wat ws (k+1)) (kn:Int) (by omega) w2.heap.size L s1 s2 s3 s4 w h hsl);rw [Int.toNat_natCast] at CW;have IX:=vAr (str F) k k rfl (by rw [vBa];exact hlt)
    have n78:(sb (str F) k == 78)=decide (F.getD k 0=78):=by
     rw [hX]
     by_cases g:F.getD k 0=78
     · rw [g];rfl
     · rw [decide_eq_false g]
       have:¬((F.getD k 0).toNat:Int)=78:=fun e=>g (UInt8.toNat_inj.1 (by show _=78;omega))
       simpa using this
    have lim:(k:Int)+1<(n:Int):=by omega
    have lim2:(k:Int)<(F.length:Int):=by omega
    have lim3:(k:Int)<((str F).size:Int):=by rw [vBa];omega
    have wk:IntKind.i64.wrap ((k:Int)+1)=(k:Int)+1:=IntWalk.i64_in _ (by omega)
    have lo1:(0:Int)≤(k:Int)+1:=by omega
    have lo2:(0:Int)≤(k:Int):=by omega
    have lo3:((k:Int)+1).toNat=k+1:=by omega
    have lo4:(0:Int)≤(k:Int)+1∧(k:Int)+1<(n:Int):=by omega
    have nlim:(n:Int)≤9223372036854775807:=by omega
    have kn2:(kn:Int)+1≤9223372036854775807:=by omega
    generalize wat ws (k+1)=x at *;generalize wdE (F.getD k 0) x=E at *;generalize wdL (F.getD k 0) x kn L=L2 at *;generalize hN:decide (F.getD k 0=78)=N78 at n78;have HN:=hid hN;generalize sb (str F) k=X at *;have hq0:w2.heap.size<wr.heap.size:=HB.out.lt;have HBd:=hid (show LBox wr.drew w2.heap.size L s1 s2 s3 s4 from HB.out.drewN 1);have cWd:wr.drew.cell? ⟨b,off+(k+1),none⟩=some (.string (str x)):=cW
    have hbr:b<wr.heap.size:=Nat.lt_of_lt_of_le hb3 HX.out.size;have HBR:=hid hbr;have HNE:=hid hne;have HLT:=hid hlt;have HKN:=hid hkn;have HKK:=hid hk;have CWh:=hid cW;clear hlb hex hmem hl5 hX hN hsl hcap hle hlen j0 hF d1 d2 c0 hk hkn hk1 hb hb3 hbr hne hq0 hlt
    by_cases hE:E=0
    · have K2:=hid (HK.out.trans (if_pos hE))
      clear HK;subst hE
      cases N78
      · have K3:=hid (show vCf (F.drop (k+1)) (ws.drop (k+1+1)) kn L2=RR by have:=K2.out;rw [if_neg (of_decide_eq_false HN.out)] at this;exact this.symm)
        go_wp2
        go_region_held_law (fun w'=>w'.cell? ⟨b,off+(k+1),none⟩=some (.string (str x))) (first|exact cW5|exact cWd|exact cW|fail)
         (first|(go_at_call 182;(with_reducible refine (CW.out _ HBd.out).mono ?_);rintro e w5 ⟨rfl,hl5,hx5⟩;have X5:=hid (HX.out.trans ((Ex.refl _ wr).drewN 1 |>.trans hx5));have cW5:w5.cell? ⟨b,off+(k+1),none⟩=some (.string (str x)):=(hx5.cell (off+(k+1)) HBR.out HNE.out).trans CWh.out;have L5:=hid hl5;clear hl5 hx5))
        obtain ⟨L',t1,t2,t3,t4,hL,hEq⟩:=L5.out
        obtain rfl:L'=L2:=by first|exact hEq rfl|exact hEq trivial
        have HL:=hid hL;clear hL hEq;go_wp2
        go_roundw
        case rel=>exact ⟨k+1,kn,L',t1,t2,t3,t4,by have:=HLT.out;omega,by go_num,rfl,by have:=HKN.out;omega,HL.out,X5.out,K3.out⟩
        case measure=>have:=HLT.out;simp [intOf];omega
      · have K3:=hid (show vCf (F.drop (k+1)) (ws.drop (k+1+1)) (kn+1) L2=RR by have:=K2.out;rw [if_pos (of_decide_eq_true HN.out)] at this;exact this.symm)
        go_wp2
        go_region_held_law (fun w'=>w'.cell? ⟨b,off+(k+1),none⟩=some (.string (str x))) (first|exact cW5|exact cWd|exact cW|fail)
         (first|(go_at_call 182;(with_reducible refine (CW.out _ HBd.out).mono ?_);rintro e w5 ⟨rfl,hl5,hx5⟩;have X5:=hid (HX.out.trans ((Ex.refl _ wr).drewN 1 |>.trans hx5));have cW5:w5.cell? ⟨b,off+(k+1),none⟩=some (.string (str x)):=(hx5.cell (off+(k+1)) HBR.out HNE.out).trans CWh.out;have L5:=hid hl5;clear hl5 hx5))
        obtain ⟨L',t1,t2,t3,t4,hL,hEq⟩:=L5.out
        obtain rfl:L'=L2:=by first|exact hEq rfl|exact hEq trivial
        have HL:=hid hL;clear hL hEq;go_wp2
        go_roundw
        case rel=>exact ⟨k+1,kn+1,L',t1,t2,t3,t4,by have:=HLT.out;omega,by go_num,by go_num,by have:=HKN.out;omega,HL.out,X5.out,K3.out⟩
        case measure=>have:=HLT.out;simp [intOf];omega
    · have hR:RR=(E,L):=HK.out.trans (if_neg hE)
      have hEE:EV=E:=by rw [←hEVh.out,hR];show (if E=0 then _ else E)=E;rw [if_neg hE]
      have hMM:M=LV.zero:=by rw [←HM.out,hEE,if_neg hE]
      clear hR HK n78;have EE:=hid hEE;have MM:=hid hMM;clear hEE hMM;go_wp2
      go_region_held_law (fun w'=>w'.cell? ⟨b,off+(k+1),none⟩=some (.string (str x))) (first|exact cW5|exact cWd|exact cW|fail)
       (first|(go_at_call 182;(with_reducible refine (CW.out _ HBd.out).mono ?_);rintro e w5 ⟨rfl,hl5,hx5⟩;have X5:=hid (HX.out.trans ((Ex.refl _ wr).drewN 1 |>.trans hx5));have cW5:w5.cell? ⟨b,off+(k+1),none⟩=some (.string (str x)):=(hx5.cell (off+(k+1)) HBR.out HNE.out).trans CWh.out;have L5:=hid hl5;clear hl5 hx5))
      have ZB5:=hid (ZB3.out.ex (by omega) X5.out (by have:=hz0.out;omega));clear lim lim2 lim3 lo1 lo2 lo3 lo4 nlim wk kn2 IX cW cWd;have hzz:=hz0.out;go_wp2_with (refine vEr rfl (.tmp 4) (.tmp 79) rfl w.heap.size (by rfl) LV.zero SlV.nil SlV.nil SlV.nil SlV.nil (by rfl) _ ZB5.out ?_;intro w9 hbx9 hex9;have RB:=hid hbx9;have BB:=Below.ex BW.out X5.out (Nat.le_of_lt hzz) BW.out.size;have QB:=hid (Below.ex BB hex9 (Nat.le_refl _) BB.size);clear hbx9 hex9 BB)
      exact bodyPost_ret (vAo _ _ w.heap.size E LV.zero SlV.nil SlV.nil SlV.nil SlV.nil rfl rfl RB.out) rfl ⟨SlV.nil,SlV.nil,SlV.nil,SlV.nil,by rw [MM.out,EE.out],by rw [MM.out];exact LRead.zero,LNew.nil _,QB.out⟩
  · obtain rfl:k=F.length:=by omega
    have hR:RR=(0,L):=by rw [←HR.out];exact runS_end (Nat.le_refl _)
    have hz1:=hz0.out;have hzz:=hz0.out
    have EV0:(if L.kind=2∧mbB L=false then (21:Int) else 0)=EV:=by rw [←hEVh.out,hR];rfl
    have M0:(if EV=0 then L else LV.zero)=M:=by rw [←HM.out,hR]
    have HT:=hid HB.out.2.1.1;obtain ⟨z0,z1,z2,z3,z4,z5,z6,z7,z8,z9,z10,z11,z12,z13,z14,z15,z16⟩:=HB.out.cells;have zf:=HB.out.frozen;have zl:=HB.out.lt
    have fsz:(F.length:Int)<((str F).size:Int)+1:=by rw [vBa];omega
    clear hR hlb hex hcap hle hlen j0 hF d1 d2 c0 hk hkn hlt
    by_cases k2:L.kind=2
    · have CM:=hid (fun w h=>members_any L s1 s2 s3 s4 w h)
      cases hm:mbB L
      · have EE:=hid (show EV=21 by rw [←EV0,if_pos ⟨k2,hm⟩])
        have MM:=hid (show M=LV.zero by rw [←M0,EE.out];rfl);rw [hm] at CM;clear EV0 M0 hm;rw [k2] at z1;unfold vBk at CM;rw [k2] at CM;clear k2;go_wp2_with (first|(go_at_call 183;(with_reducible refine (CM.out _ HT.out).mono ?_);rintro e w5 ⟨rfl,hb5⟩;have XW:=hid (HX.out.trans (Ex.of_below hb5));have LW:=hid (HB.out.below hb5);clear hb5 z0 z1 z2 z3 z4 z5 z6 z7 z8 z9 z10 z11 z12 z13 z14 z15 z16 zf zl;have ZB5:=hid (ZB3.out.ex (by omega) XW.out (by omega)))|(refine vEr rfl (.tmp 4) (.tmp 95) rfl w.heap.size (by rfl) LV.zero SlV.nil SlV.nil SlV.nil SlV.nil (by rfl) _ ZB5.out ?_;intro w9 hbx9 hex9;have RB:=hid hbx9;have BB:=Below.ex BW.out XW.out (Nat.le_of_lt hzz) BW.out.size;have QB:=hid (Below.ex BB hex9 (Nat.le_refl _) BB.size);clear hbx9 hex9 BB))
        exact bodyPost_ret (vAo _ _ w.heap.size 21 LV.zero SlV.nil SlV.nil SlV.nil SlV.nil rfl rfl RB.out) rfl ⟨SlV.nil,SlV.nil,SlV.nil,SlV.nil,by rw [MM.out,EE.out],by rw [MM.out];exact LRead.zero,LNew.nil _,QB.out⟩
      · have EE:=hid (show EV=0 by rw [←EV0,if_neg (fun g=>by rw [hm] at g;cases g.2)])
        have MM:=hid (show M=L by rw [←M0,EE.out];rfl);rw [hm] at CM;clear EV0 M0 hm;rw [k2] at z1;unfold vBk at CM;rw [k2] at CM;clear k2;go_wp2_with (first|(go_at_call 183;(with_reducible refine (CM.out _ HT.out).mono ?_);rintro e w5 ⟨rfl,hb5⟩;have XW:=hid (HX.out.trans (Ex.of_below hb5));have LW:=hid (HB.out.below hb5);clear hb5 z0 z1 z2 z3 z4 z5 z6 z7 z8 z9 z10 z11 z12 z13 z14 z15 z16 zf zl;have ZB5:=hid (ZB3.out.ex (by omega) XW.out (by omega)))|(refine vAk rfl (.tmp 7) rfl w2.heap.size (by rfl) L s1 s2 s3 s4 LW.out.1 ?_)|(refine vEr rfl (.tmp 4) (.tmp 96) rfl w.heap.size (by rfl) L s1 s2 s3 s4 (by rfl) _ ZB5.out ?_;intro w9 hbx9 hex9;have RB:=hid hbx9;have BB:=Below.ex BW.out XW.out (Nat.le_of_lt hzz) BW.out.size;have QB:=hid (Below.ex BB hex9 (Nat.le_refl _) BB.size);have LR:=hid (LRead.ex LW.out hex9 hzz);clear hbx9 hex9 BB))
        exact bodyPost_ret (vAo _ _ w.heap.size 0 L s1 s2 s3 s4 rfl rfl RB.out) rfl ⟨s1,s2,s3,s4,by rw [MM.out,EE.out],by rw [MM.out];exact LR.out,LW.out.new (Nat.le_of_lt hz1),QB.out⟩
    · have EE:=hid (show EV=0 by rw [←EV0,if_neg (fun g=>k2 g.1)])
      have MM:=hid (show M=L by rw [←M0,EE.out];rfl);have XW:=hid HX.out;have LW:=hid HB.out;have ZB5:=hid (ZB3.out.ex (by omega) XW.out (by omega))
      have kk:(L.kind == 2)=false:=by simpa using k2
      clear EV0 M0 k2;go_wp2_with (first|(refine vAk rfl (.tmp 7) rfl w2.heap.size (by rfl) L s1 s2 s3 s4 LW.out.1 ?_)|(refine vEr rfl (.tmp 4) (.tmp 96) rfl w.heap.size (by rfl) L s1 s2 s3 s4 (by rfl) _ ZB5.out ?_;intro w9 hbx9 hex9;have RB:=hid hbx9;have BB:=Below.ex BW.out XW.out (Nat.le_of_lt hzz) BW.out.size;have QB:=hid (Below.ex BB hex9 (Nat.le_refl _) BB.size);have LR:=hid (LRead.ex LW.out hex9 hzz);clear hbx9 hex9 BB))
      exact bodyPost_ret (vAo _ _ w.heap.size 0 L s1 s2 s3 s4 rfl rfl RB.out) rfl ⟨s1,s2,s3,s4,by rw [MM.out,EE.out],by rw [MM.out];exact LR.out,LW.out.new (Nat.le_of_lt hz1),QB.out⟩
end Go.Proofs.YtkpbbfehglihlaaGreatDoor
