/-GBx2-/
import Derived.Test.YtjaebndajhppgaaGreatDoorMlHd1
import Derived.Test.YtjaebndajhppgaaGreatDoorMlGB
import Derived.Test.YtjaebndajhppgaaGreatDoorMlSoFileM
import Derived.Deep.SlicePairs
import Derived.Test.YtjaebndajhppgaaGreatDoorMlGTm2
import Derived.Test.YtjaebndajhppgaaGreatDoorMlGRg2
import Derived.Deep.DeepCutAuto
import Derived.Test.YtjaebndajhppgaaGreatDoorMlGRg3
set_option linter.unusedVariables false
set_option maxRecDepth 100000
set_option linter.unusedSimpArgs false
set_option maxHeartbeats 2000000
namespace Go.Proofs.YtjaebndajhppgaaGreatDoor
open Go.Proofs.Tryz
open Go.ChangeShapes Go.WideShapes Go.ChangeAt Go.RowKit
def vH (W:World) (b off:Nat) (s:Bx.cK):Prop:=W.cell? ⟨b,off,none⟩=some (.int .i64 s.1)∧∃ v,W.cell? ⟨b,off+1,none⟩=some v∧BytesAt W v s.2
theorem vH.keep {W W':World} {b off:Nat} {s:Bx.cK} (h:vH W b off s) (hb:Below W.heap.size W W'):vH W' b off s:=by obtain ⟨h1,v,h2,h3⟩:=h;exact ⟨aB hb h1,v,aB hb h2,h3.keep hb⟩
def jM (W:World) (v:Value) (L:List Bx.cK):Prop:=∃ (a:Option Addr) (cap:Nat),v=.slice a L.length cap∧L.length≤cap∧cap≤maxLen∧(a=none→cap=0) ∧
 (L.length=0∨∃ b off,a=some ⟨b,off,none⟩∧∀ i (h:i<L.length),vH W b (off+i*2) L[i])
theorem jM.keep {W W':World} {v:Value} {L:List Bx.cK} (h:jM W v L) (hb:Below W.heap.size W W'):jM W' v L:=by obtain ⟨a,cap,h1,h2,h3,h4,h5⟩:=h;refine ⟨a,cap,h1,h2,h3,h4,?_⟩;rcases h5 with h5 | ⟨b,off,e,h5⟩;{exact Or.inl h5};{exact Or.inr ⟨b,off,e,fun i hi=>(h5 i hi).keep hb⟩}
theorem jM.nil (W:World):jM W (.slice none 0 0) []:=⟨none,0,rfl,Nat.le_refl _,by unfold maxLen;omega,fun _=>rfl,Or.inl rfl⟩
theorem jM.get {W:World} {a:Option Addr} {n cap:Nat} {L:List Bx.cK} (h:jM W (.slice a n cap) L) {i:Nat} (hi:i<L.length):∃ b off,a=some ⟨b,off,none⟩∧∀ i (h:i<L.length),vH W b (off+i*2) L[i]:=by obtain ⟨a',cap',e,h2,h3,h4,h5⟩:=h;simp only [Value.slice.injEq] at e;obtain ⟨rfl,rfl,rfl⟩:=e;rcases h5 with h5 | h5;{omega};{exact h5}
theorem jM.open {W:World} {v:Value} {L:List Bx.cK} (h:jM W v L):∃ a cap,v=.slice a L.length cap∧L.length≤cap∧cap≤maxLen∧(a=none→cap=0):=by obtain ⟨a,cap,h1,h2,h3,h4,_⟩:=h;exact ⟨a,cap,h1,h2,h3,h4⟩
section
variable {H:Type} {enc:TypeId×Value→H} {W:World} {base:Nat} {v:Value} {d:DataW H} {p:List MemPlace}
end
open Go.ChangeShapes Go.WideShapes Go.ChangeAt Go.RowKit
theorem Pt {w:World} {P:Program} {ops:Array Oper} {rest:List Oper} {o:Oper} {a:Act} {Q:Exit→Act→World→Prop} (hgd:o.guard=none) (s x:Operand) (t:TypeId)
  (ho:o.op=.call { callee:=.builtin .append,args:=#[s,x],argTypes:=#[t,t] })
  (e:TypeId) (i:TypeInfo) (z:Value) (bytes:Nat) (ht:P.underlying t=some (.slice e)) (hi:P.info? e=some i) (hz:i.zero=some z)
  (hsize:i.size=1) (hby:i.bytes=bytes) (hzs:z.cells.size=1)
  (g n:Nat) (xs:List Value) (hs:a.eval s=.slice (some ⟨g,0,none⟩) n n) (hxl:xs.length=n) (holds:∀ j u,xs[j]?=some u→w.cell? ⟨g,j,none⟩=some u)
  (sg m c:Nat) (us:List Value) (hx:a.eval x=.slice (some ⟨sg,0,none⟩) m c) (hl:us.length=m) (hnews:∀ j u,us[j]?=some u→w.cell? ⟨sg,j,none⟩=some u) (h1:∀ u∈us,u.oneCell'=true)
  (hm:0<m) (h63:n+m≤maxLen) (hbytes:(n+m)*bytes≤140737488355328)
  (h:∀ v' w',w'.ownsRow w.heap.size e 1 v' (n+m) (xs++us)→Below w.heap.size w w'→wpList P ops Q rest (a.put o.dst v') w'):wpList P ops Q (o::rest) a w:=by
 refine wpList_plain hgd fun K hK=>?_;have hsmall:n+m≤9223372036854775807:=by simp only [maxLen] at h63;omega
 subst hby
 have hr:=run_append_grow (P:=P) w t o.type e i z ht hi hz ⟨g,0,none⟩ n n xs (by rw [hsize];omega) (fun j u hu=>by rw [ji rfl,Nat.zero_add];exact holds j u hu) ⟨sg,0,none⟩ m c us (by rw [hsize];omega) (fun j u hu=>by rw [ji rfl,Nat.zero_add];exact hnews j u hu) aj aj (growslice_fits aj hbytes);unfold Oper.wp execOp;simp only [ho,resolve,invoke,builtin,Sem.run_bind,Sem.run_pure,Result.andThen_ok,List.map_toArray,List.map_cons,List.map_nil,hs,hx,hr];refine hK _ _ (h _ _ ⟨by rw [List.length_append];omega,.inr ⟨w.heap.size,_,_,rfl,Nat.le_refl _,heap_alloc_new w.drew _,grownCap_ge w (n+m) n e,grownCap_le_maxLen w (n+m) n e h63,?_,?_⟩⟩ ?_);{have hge:=grownCap_ge w (n+m) n e;simp only [Array.size_append,List.size_toArray,size_zeroCells,hzs,List.length_append];omega};{simp only [Array.toList_append,List.append_assoc];rw [←List.append_assoc,show (n+m)*1=(xs++us).length by rw [List.length_append];omega];exact List.take_left};{exact (Below.refl w.heap.size w).drew.alloc ay _}
theorem Tryz.infobx5:(prog.info? 5).map (fun i=>(i.zero,i.size,i.bytes))=some (some (.int .u8 0),1,1):=aD
theorem acr (n:Nat) (W:World) (hn:n≤1000000):Calls prog 136 #[.int .i64 n] W fun e W'=>e=.returned (.int .i64 (9+7*n:Nat))∧W'=W:=by go_enter func136,ntmps136;go_wp2;go_ret;exact ⟨ko aj,rfl⟩
structure rA (W:World) (base:Nat) (v:Value) (n:Nat) (l:List Nat) (W':World) (v':Value):Prop where
 own:W'.ownsRow base 5 1 v' n (l.map aS)
 rest:W.grownBy W' v.ownBlock
 moved:Moved W v v'
theorem GH (v:Value) (n k base:Nat) (l:List Nat) (W:World) (hown:W.ownsRow base 5 1 v n (l.map aS)) (hb:base≤W.heap.size) (hn:n≤1000000000) (hk:k<16777216) :
  Calls prog 102 #[v,.int .i64 k] W fun e W'=>∃ v',e=.returned v'∧rA W base v (n+3) (l++Bx.three k) W' v':=by
 obtain ⟨i0,hi,hz0,hz1,hz2⟩:=info_parts Tryz.infobx5;obtain ⟨a,cap,rfl,_,_,_,_⟩:=tX hown;have HO:=hid hown;clear hown;have e1:(k:Int) / 65536=((k / 65536 % 256:Nat):Int):=aj;have e2:(k:Int) / 256 % 256=((k / 256 % 256:Nat):Int):=aj;have e3:(k:Int) % 256=((k % 256:Nat):Int):=aj;have EE:=hid (show (#[Value.int .u8 ((k:Int) / 65536),Value.int .u8 ((k:Int) / 256 % 256),Value.int .u8 ((k:Int) % 256)]:Array Value)=((Bx.three k).map aS).toArray by rw [e1,e2,e3];rfl);clear e1 e2 e3;go_enter func102,ntmps102;go_wp2_with (at_builtin;refine vY rfl (.tmp 5) (.tmp 14) 32 rfl base 5 i0 _ 1 underlying32 hi hz0 hz1 hz2 rfl (.slice a n cap) n (l.map aS) ((Bx.three k).map aS) 3 rfl W ?hw rfl HO.out W.heap.size rfl rfl ?one ?b1 ?b2 hb ?_)
 case hw=>rw [EE.out]
 case one=>intro u hu;obtain ⟨c,_,rfl⟩:=List.mem_map.1 hu;rfl
 case b1=>unfold maxLen;omega
 case b2=>omega
 intro v' w' h1 h2 h3;rw [←List.map_append] at h1;have H1:=hid h1;have H2:=hid h2;have H3:=hid h3;clear h1 h2 h3;go_wp2;go_ret;exact ⟨v',rfl,⟨H1.out,H2.out,H3.out⟩⟩
theorem GI (W:World) (a b:Value) (t:TypeId):∃ w2,w2=W.alloc (.cells #[a,b] t)∧w2.cell? ⟨W.heap.size,0,none⟩=some a∧w2.cell? ⟨W.heap.size,1,none⟩=some b∧Hid (Below W.heap.size W w2):=
 ⟨_,rfl,by simp [go_sem],by simp [go_sem],(Below.refl W.heap.size W).alloc ay _⟩
theorem vI {W:World} {b off:Nat} {s:Bx.cK} (h:vH W b off s):∃ (ab:Option Addr) (cb:Nat),W.cell? ⟨b,off,none⟩=some (.int .i64 s.1)∧W.cell? ⟨b,off+1,none⟩=some (.slice ab s.2.length cb)∧s.2.length≤cb∧cb≤maxLen∧BytesAt W (.slice ab s.2.length cb) s.2:=by obtain ⟨h1,v,h2,h3⟩:=h;obtain ⟨ab,cb,rfl,g1,g2,_,_⟩:=dN.open h3;exact ⟨ab,cb,h1,h2,g1,g2,h3⟩
theorem acs (a:Option Addr) (n cap:Nat) (L:List Bx.cK) (W:World) (hn:n=L.length) (h:jM W (.slice a n cap) L) (hb:∀ s∈L,-9223372036854775808≤s.1∧s.1≤9223372036854775807∧s.2.length≤140737488351232) :
  Calls prog 101 #[.slice a n cap] W fun e W'=>e=.returned (.bool (Bx.nT L))∧Below W.heap.size W W':=by
 have HN:=hid hn;have HS:=hid h;have qp:=hid hb;have hnm:n≤maxLen:=by obtain ⟨a',cap',e,h1,h2,_⟩:=h;simp only [Value.slice.injEq] at e;omega
 unfold maxLen at hnm;clear hn h hb;by_cases h8:8<n;{have HR:=hid (show Bx.nT L=false by unfold Bx.nT;rw [decide_eq_false (by have:=HN.out;omega)];rfl);go_enter func101,ntmps101;go_wp2;go_ret;exact ⟨iC HR.out.symm,Below.refl _ _⟩}
 · have HM:=hid (show Bx.nT L=(Bx.jf 0 L && decide (Bx.total L≤100000)) by unfold Bx.nT;rw [decide_eq_true (by have:=HN.out;omega),Bool.true_and]);generalize Bx.nT L=r at *;go_enter func101,ntmps101;(go_wp2_with (go_at_call 136;refine (acr n _ aj).mono ?_;rintro e w' ⟨rfl,fU⟩;have acu:=fU.symm;subst acu));go_loopw [3,4,15] (fun s3 s4 s15 wr=>∃ (i z:Nat) (p:Int),i≤n∧s15=.int .i64 i∧s3=.int .i64 z∧z≤1000+140737488351232*i∧s4=.int .i64 p∧Hid (z+Bx.sizes (L.drop i)=Bx.total L)∧Hid (Bx.jf p (L.drop i)=Bx.jf 0 L)∧Hid (Below W.heap.size W wr)) (fun _ _ s15 _=>n-(intOf s15).toNat)
   (case atStart=>exact ⟨0,9+7*n,0,aj,rfl,rfl,aj,rfl,hid (by rw [List.drop_zero,HN.out];rfl),hid (by rw [List.drop_zero]),Below.refl _ _⟩);case round=>
    obtain ⟨i,z,p,hin,rfl,rfl,hz,rfl,HZ1,HR,HB⟩:=hrel;by_cases hlt:i<n
    · have hlt':i<L.length:=(by rw [←HN.out];exact hlt);obtain ⟨b,off,rfl,hc⟩:=(HS.out.keep HB.out).get hlt';obtain ⟨ab,cb,d0,d1,h1,h2,_⟩:=vI (hc i hlt');have hbd:=qp.out L[i] (List.getElem_mem _);have hs:=Bx.O9 L i hlt';have hr:=Bx.O8 L p i hlt';have qV:=hid hs;have HR1:=hid hr;generalize L[i]=s at *;obtain ⟨id,body⟩:=s;simp only at *;have nG:(i:Int)<n:=aj;obtain ⟨m,hm⟩:=aA body.length;rw [←hm] at d1 h1 hbd qV;unfold maxLen at h2;clear hc hs hr hm;(go_upto_region 8 with fail);obtain ⟨w2,hw2,e0,e1,HB2⟩:=GI wr (.int .i64 id) (.slice ab m cb) 56;rw [←hw2];have dK:=hid (aG HB.out HB2.out);clear hw2 d0 d1;have hz8:z≤1000+140737488351232*8:=aj;rcases (show id≤p∨(p<id∧255<id)∨(p<id∧id≤255) by omega) with h3 | ⟨h3,h4⟩ | ⟨h3,h4⟩;{have HF:=hid (show r=false by rw [HM.out,←HR.out,HR1.out,decide_eq_false aj];rfl);go_wp2;go_ret;exact ⟨iC HF.out.symm,dK.out⟩};{have HF:=hid (show r=false by rw [HM.out,←HR.out,HR1.out,decide_eq_false (show ¬ id≤255 by omega),Bool.and_false];rfl);have h3':¬ id≤p:=aj;go_wp2;go_ret;exact ⟨iC HF.out.symm,dK.out⟩}
      · have HR2:=hid (show Bx.jf id (L.drop (i+1))=Bx.jf 0 L by rw [←HR.out,HR1.out,decide_eq_true h3,decide_eq_true h4];rfl);have h3':¬ id≤p:=aj;go_wp2;go_roundw
        (case rel=>exact ⟨i+1,z+m,id,aj,aN,aN,aj,rfl,hid (by have:=HZ1.out;have:=qV.out;omega),HR2,dK⟩);case measure=>simp [intOf];omega
    {obtain rfl:i=n:=aj;have hd:L.drop i=[]:=List.drop_of_length_le (by rw [←HN.out];exact Nat.le_refl _);have hz1:=HZ1.out;have hr:=HR.out;rw [hd] at hz1 hr;have hz2:z=Bx.total L:=hz1;have hr2:Bx.jf 0 L=true:=hr.symm;have HF:=hid (show r=decide ((z:Int)≤100000) by rw [HM.out,hr2,Bool.true_and,hz2,decide_eq_decide];omega);clear hz1 hr hz2 hr2 hd HZ1 HR HM;go_wp2;go_ret;exact ⟨iC HF.out.symm,HB.out⟩}
theorem rA.below {W W' W0:World} {base n B:Nat} {v v':Value} {l k:List Nat} {m:Nat} (G:rA W base v n l W' v') (hown:W.ownsRow base 5 1 v m (k.map aS)) (hB:Below B W0 W) (hb:B≤W.heap.size) (hle:B≤base):Below B W0 W':=
 hB.grown G.rest hb (fun k hk=>Nat.le_trans hle (hown.lt k hk).1)
theorem rA.cell {W W':World} {base n b o:Nat} {v v':Value} {l:List Nat} (G:rA W base v n l W' v') (hb:b<W.heap.size) (hne:v.ownBlock≠some b):W'.cell? ⟨b,o,none⟩=W.cell? ⟨b,o,none⟩:=
 Aq (G.rest.block b hb (fun e=>hne e.symm))
theorem rA.off {W W':World} {base n b:Nat} {v v':Value} {l:List Nat} (G:rA W base v n l W' v') (hb:b<W.heap.size) (hne:v.ownBlock≠some b):v'.ownBlock≠some b:=by rcases G.moved with e | ⟨k,e,hk⟩;{rw [e];exact hne};{rw [e];intro h;cases h;omega}
theorem Cm {w w':World} {base:Nat} {e:TypeId} {size:Nat} {v:Value} {n:Nat} {xs:List Value} (h:w.ownsRow base e size v n xs) (hb:Below w.heap.size w w'):w'.ownsRow base e size v n xs:=
 h.kept (row:=none) ⟨hb.os,hb.tape,hb.output,hb.size,fun k hk _=>hb.block k hk⟩ (by cases v.ownBlock <;> simp)
theorem yS {w:World} {base base':Nat} {e:TypeId} {size:Nat} {v:Value} {n:Nat} {xs:List Value} (h:w.ownsRow base e size v n xs) (hb:base'≤base):w.ownsRow base' e size v n xs:=by obtain ⟨h1,h2⟩:=h;refine ⟨h1,?_⟩;rcases h2 with h2 | ⟨g,cap,cur,a,b,c⟩;{exact Or.inl h2};{exact Or.inr ⟨g,cap,cur,a,Nat.le_trans hb b,c⟩}
theorem Pv {w:World} {base:Nat} {v:Value} {n:Nat} {l:List Nat} (h:w.ownsRow base 5 1 v n (l.map aS)) (hn:n=l.length):BytesAt w v l:=dN.own h hn
theorem Pw {l:List Nat} (h:∀ x∈l,x<256):∀ i,l.getD i 0<256:=fun i=>by rcases Nat.lt_or_ge i l.length with hi | hi;{rw [List.getD,List.getElem?_eq_getElem hi];exact h _ (List.getElem_mem _)};{rw [List.getD,List.getElem?_eq_none hi];decide}
theorem acv (L:List Bx.cK):∀ x∈Bx.entries L,x<256:=by intro x hx;unfold Bx.entries at hx;rw [List.mem_flatMap] at hx;obtain ⟨s,_,hs⟩:=hx;unfold Bx.entry Bx.three at hs;simp at hs;omega
theorem Px (L:List Bx.cK):∀ x∈Bx.head L,x<256:=by intro x hx;unfold Bx.head at hx;rw [List.mem_append] at hx;rcases hx with hx | hx;{simp at hx;omega};{exact acv L x hx}
def pre (L:List Bx.cK) (i:Nat):List Nat:=[84,82,73,86,1,L.length % 256]++Bx.entries (L.take i)
theorem Py (L:List Bx.cK):pre L L.length=Bx.head L:=by unfold pre Bx.head;rw [List.take_length]
theorem Pz (L:List Bx.cK) (i:Nat) (h:i<L.length):pre L i++[(L[i].1 % 256).toNat]++Bx.three L[i].2.length++Bx.three (Cr.sum L[i].2)=pre L (i+1):=by unfold pre;rw [Bx.ab5 L i h,Bx.entry];simp
def post (L:List Bx.cK) (i:Nat):List Nat:=Bx.head L++Bx.three (Cr.sum (Bx.head L))++Bx.bodies (L.take i)
theorem PD (L:List Bx.cK) (i:Nat):(post L i).length≤Bx.total L:=by have:=Bx.Gz L i;unfold post Bx.total;rw [List.length_append,List.length_append,Bx.vF,Bx.OY,Bx.Cj];omega
theorem PE (L:List Bx.cK):Bx.head L++Bx.three (Cr.sum (Bx.head L))=post L 0:=by unfold post;simp [Bx.bodies]
theorem PG (L:List Bx.cK):post L L.length=Bx.file L:=by unfold post Bx.file;rw [List.take_length]
theorem PI (L:List Bx.cK) (i:Nat) (h:i<L.length):post L i++L[i].2=post L (i+1):=by unfold post;rw [Bx.ab6 L i h];simp
theorem acw (a:Option Addr) (n cap:Nat) (L:List Bx.cK) (W:World) (hn:n=L.length) (h:jM W (.slice a n cap) L) (hM:Bx.May L) (hby:Bx.Bytes L) :
  Calls prog 59 #[.slice a n cap] W fun e W'=>∃ v,e=.returned (.tuple #[v,.int .i64 0])∧Below W.heap.size W W'∧W'.ownsRow W.heap.size 5 1 v (Bx.total L) ((Bx.file L).map aS):=by
 obtain ⟨i0,hi,hz0,hz1,hz2⟩:=info_parts Tryz.infobx5;have hbd:∀ s∈L,(1≤s.1∧s.1≤255)∧s.2.length≤100000:=fun s hs=>by have h1:=Bx.OZ hM.2.1 s hs;have h2:=Bx.size_le hs;have h3:=hM.2.2;unfold Bx.total at h3;omega
 have MB:=hid (acs a n cap L W hn h (fun s hs=>by have:=hbd s hs;omega));rw [(Bx.O7 L).2 hM] at MB;have HN:=hid hn;have HS:=hid h;have HM:=hid hM;have GJ:=hid hby
 have qp:=hid hbd;have yD:n≤8:=by have:=hM.1;omega
 have htot:=hM.2.2;have hlen:L.length % 256=n:=aj;have HLEN:=hid hlen;clear hn h hM hby hbd hlen;go_enter func59,ntmps59;go_upto_region 3 with (go_at_call 101;refine MB.out.mono ?_;rintro e w1 ⟨rfl,hB1⟩)
 have HB1:=hid hB1;clear hB1 MB;have hz1':=HB1.out.size;have kc:=fun (w:World) (C:Array Value) (n c:Nat)=>Lib.run_convert_bytes_const (P:=prog) w 32 5 C n c underlying32 underlying5;go_wp2_with (at_builtin;refine Pt rfl (.tmp 13) (.tmp 17) 32 rfl 5 i0 _ 1 underlying32 hi hz0 hz1 hz2 rfl w1.heap.size 5 ([84,82,73,86,1].map aS) rfl rfl ?holds (w1.heap.size+1) 1 1 ([n].map aS) rfl rfl ?news ?one aH ?b1 ?b2 ?_)
 case holds=>intro j u hj;rw [World.cell?_alloc_lt _ _ _ aC];rw [gB];simpa [aS] using hj
 case news=>intro j u hj;rw [World.cell?_alloc_at _ _ _ _ aC];simpa [aS] using hj
 case one=>intro u hu;obtain ⟨c,_,rfl⟩:=List.mem_map.1 hu;rfl
 case b1=>unfold maxLen;omega
 case b2=>omega
 intro v4 w4 hown hb4;have hpre:(pre L 0).map aS=[aS 84,aS 82,aS 73,aS 86,aS 1,aS n]:=by unfold pre;rw [HLEN.out];rfl
 have mZ:=hid (show w4.ownsRow W.heap.size 5 1 v4 6 ((pre L 0).map aS) by rw [hpre];exact yS hown aj);have aP:=hid (show Below W.heap.size W w4 from by refine (((HB1.out.alloc hz1' _).alloc (by simp;omega) _)).trans (hb4.mono aj));clear hown hb4 hpre kc;go_wp2;go_loopw [4,21] (fun s4 sI wr=>∃ (i:Nat) (v:Value),i≤n∧sI=.int .i64 i∧s4=v∧Hid (wr.ownsRow W.heap.size 5 1 v (6+7*i) ((pre L i).map aS))∧Hid (Below W.heap.size W wr)) (fun _ sI _=>n-(intOf sI).toNat)
 case atStart=>exact ⟨0,v4,aj,rfl,rfl,mZ,aP⟩
 case round=>
  obtain ⟨i,v,hin,rfl,hv,HO,HB⟩:=hrel;have hv2:=hv.symm;subst hv2;clear hv;by_cases hlt:i<n
  · have hlt':i<L.length:=(by rw [←HN.out];exact hlt);obtain ⟨b,off,rfl,hc⟩:=HS.out.get hlt';obtain ⟨ab,cb,d0,d1,h1,h2,hbody⟩:=vI (hc i hlt');have d0:=aB HB.out d0;have d1:=aB HB.out d1;have hbd:=qp.out L[i] (List.getElem_mem _);have hby:=GJ.out L[i] (List.getElem_mem _);have hsn:=Pz L i hlt';generalize L[i]=s at *;obtain ⟨id,body⟩:=s;simp only at *;obtain ⟨k,rfl⟩:∃ k:Nat,id=k:=⟨id.toNat,aj⟩;have hk:(((k:Int) % 256).toNat)=k:=aj;rw [hk] at hsn;have nG:(i:Int)<n:=aj;obtain ⟨m,hm⟩:=aA body.length;rw [←hm] at d1 h1 hbd hsn hbody;unfold maxLen at h2;have nU:=hid hsn;have rC:=hid hbody;have GK:=hid hby
    have hsm:=Cr.sum_lt body hby
    have mD:=HB.out.size;have uE:∀ g,v.ownBlock=some g→W.heap.size≤g∧g<wr.heap.size:=fun g hg=>HO.out.lt g hg;have HOL:=hid uE;clear hc hm hk hsn hby hbody uE;(go_upto_region 7 with fail);obtain ⟨w2,hw2,e0,e1,HB2⟩:=GI wr (.int .i64 (k:Nat)) (.slice ab m cb) 56;rw [←hw2];have HZ2:=hid (show w2.heap.size=wr.heap.size+1 by rw [hw2];simp);have dK:=hid (aG HB.out HB2.out);have fQ:=hid (Cm HO.out HB2.out);have hne2:v.ownBlock≠some wr.heap.size:=fun e=>(by have:=(HOL.out _ e).2;omega);have GL:=hid hne2;clear hw2 d0 d1 hne2;have hkI:(k:Int) % 256=k:=aj;(go_wp2_with (at_builtin;refine vY rfl (.tmp 25) (.tmp 29) 32 rfl W.heap.size 5 i0 _ 1 underlying32 hi hz0 hz1 hz2 rfl v _ _ ([k].map aS) 1 rfl w2 ?hw rfl fQ.out w2.heap.size rfl rfl ?one ?b1 ?b2 ?base ?_));(case hw=>simp [aS]);(case one=>intro u hu;obtain ⟨c,_,rfl⟩:=List.mem_map.1 hu;rfl);(case b1=>unfold maxLen;omega);(case b2=>omega);(case base=>have:=HZ2.out;omega);intro v3 w3 g1 g2 g3;have hz2':=HZ2.out;have G3:rA w2 W.heap.size v (6+7*i+1) (pre L i++[k]) w3 v3:=⟨by rw [List.map_append];exact g1,g2,g3⟩;have f0:w3.cell? ⟨wr.heap.size,0,none⟩=some (.int .i64 (k:Nat)):=(by rw [G3.cell aj GL.out];exact e0);have f1:w3.cell? ⟨wr.heap.size,1,none⟩=some (.slice ab m cb):=(by rw [G3.cell aj GL.out];exact e1);have acy:=hid (G3.off aj GL.out);have HB3:=hid (G3.below fQ.out dK.out aj ay);have hz3:wr.heap.size<w3.heap.size:=(by have:=g2.size;omega);have mq:=hid G3;clear g1 g2 g3 G3 e0 e1 dK fQ hz2';have T3:=hid (GH v3 (6+7*i+1) m W.heap.size (pre L i++[k]) w3 mq.out.own aj aj aj);(go_upto_region 9 with (go_at_call 102;refine T3.out.mono ?_;rintro e w4 ⟨v5,rfl,G5⟩));have f2:w4.cell? ⟨wr.heap.size,1,none⟩=some (.slice ab m cb):=(by rw [G5.cell hz3 acy.out];exact f1);have GN:=hid (G5.below mq.out.own HB3.out aj ay);have oz:=hid G5.own;have qI:W.heap.size≤w4.heap.size:=GN.out.size;have CS:=hid (Pf (rC.out.keep GN.out) GK.out rfl);clear f0 f1 G5 T3 mq;go_wp2_with (first
     | (go_at_call 103;refine CS.out.mono ?_;rintro e w5 ⟨rfl,dF⟩
        have aR:=hid (show Below W.heap.size W w5 by rw [←dF];exact GN.out.alloc qI _)
        have qw:=hid (show w5.ownsRow W.heap.size 5 1 v5 (6+7*i+1+3) ((pre L i++[k]++Bx.three m).map aS) by rw [←dF];exact oz.out.alloc _)
        have T5:=hid (GH v5 (6+7*i+1+3) (Cr.sum body) W.heap.size _ w5 qw.out aR.out.size aj hsm)
        clear dF)
     | (go_at_call 102;refine T5.out.mono ?_;rintro e w6 ⟨v6,rfl,G6⟩))
    have aO:=hid (G6.below qw.out aR.out aR.out.size ay);have hown6:=G6.own;rw [nU.out] at hown6;have lY:=hid hown6;clear G6 hown6;go_roundw
    (case rel=>exact ⟨i+1,v6,aj,aN,rfl,hid (by rw [show 6+7*(i+1)=6+7*i+1+3+3 by omega];exact lY.out),aO⟩);case measure=>simp [intOf];omega
  · obtain rfl:i=n:=aj;have hpa:pre L i=Bx.head L:=(by rw [HN.out];exact Py L);rw [hpa] at HO;have tN:=Pw (Px L);have hsl:=Cr.sum_lt _ tN;have qx:=Bx.vF L;rw [←HN.out] at qx;have o8:=hid tN;obtain ⟨a5,cap5,hv,_,_,_,_⟩:=tX HO.out;subst hv;have mD:=HB.out.size;have yT:=hid (Pv HO.out qx.symm);have CS:=hid (Pf yT.out o8.out rfl);have GQ:=hid qx;clear hpa tN qx;go_upto_region 12 with (first
     | (go_at_call 103;refine CS.out.mono ?_;rintro e w5 ⟨rfl,dF⟩
        have aR:=hid (show Below W.heap.size W w5 by rw [←dF];exact HB.out.alloc mD _)
        have qw:=hid (show w5.ownsRow W.heap.size 5 1 (.slice a5 (6+7*i) cap5) (6+7*i) ((Bx.head L).map aS) by rw [←dF];exact HO.out.alloc _)
        have T5:=hid (GH (.slice a5 (6+7*i) cap5) (6+7*i) (Cr.sum (Bx.head L)) W.heap.size _ w5 qw.out aR.out.size aj hsl)
        clear dF)
     | (go_at_call 102;refine T5.out.mono ?_;rintro e w6 ⟨v6,rfl,G6⟩))
    have aO:=hid (G6.below qw.out aR.out aR.out.size ay);have hown6:=G6.own;rw [PE] at hown6;have lY:=hid hown6;clear G6 hown6 yT CS qw T5 aR;have mE:6+7*i+3=(post L 0).length:=(by unfold post;rw [List.length_append,List.length_append,Bx.vF,Bx.Cj,←HN.out];simp [Bx.bodies]);rw [mE] at lY;clear mE HO mZ aP GQ hsl mD;go_wp2;go_loopw [4,50] (fun s4 GR wr=>∃ (j:Nat) (v:Value),j≤i∧GR=.int .i64 j∧s4=v∧Hid (wr.ownsRow W.heap.size 5 1 v (post L j).length ((post L j).map aS))∧Hid (Below W.heap.size W wr)) (fun _ GR _=>i-(intOf GR).toNat)
    (case atStart=>exact ⟨0,v6,aj,rfl,rfl,lY,aO⟩);case round=>
     obtain ⟨j,v,hji,rfl,hv,HO,HB⟩:=hrel;have hv2:=hv.symm;subst hv2;clear hv;by_cases hlt2:j<i
     · have hlt':j<L.length:=(by rw [←HN.out];exact hlt2);obtain ⟨b,off,rfl,hc⟩:=HS.out.get hlt';obtain ⟨ab,cb,d0,d1,h1,h2,hbody⟩:=vI (hc j hlt');have d0:=aB HB.out d0;have d1:=aB HB.out d1;have hbd:=qp.out L[j] (List.getElem_mem _);have hsn:=PI L j hlt';have hpl:=PD L (j+1);generalize L[j]=s at *;obtain ⟨id,body⟩:=s;simp only at *;rw [←hsn,List.length_append] at hpl;have nG:(j:Int)<i:=aj;obtain ⟨m,hm⟩:=aA body.length;rw [←hm] at d1 h1 hbd hbody hpl;unfold maxLen at h2;have mh:=hid hm;have nU:=hid hsn;have rC:=hid hbody;have mD:=HB.out.size;have HOL:=hid (fun g hg=>HO.out.lt g hg:∀ g,v.ownBlock=some g→W.heap.size≤g∧g<wr.heap.size);obtain ⟨pl,mE⟩:=aA ((post L j).length);rw [←mE] at HO hpl;have wZ:=hid mE;clear hc hm hsn hbody mE;(go_upto_region 15 with fail);obtain ⟨w2,hw2,e0,e1,HB2⟩:=GI wr (.int .i64 id) (.slice ab m cb) 56;rw [←hw2];have HZ2:=hid (show w2.heap.size=wr.heap.size+1 by rw [hw2];simp);have dK:=hid (aG HB.out HB2.out);have fQ:=hid (Cm HO.out HB2.out);have PL:=hid (rC.out.keep dK.out);clear hw2 d0 d1;(go_wp2_with (at_builtin;refine n_ rfl (.tmp 54) (.tmp 56) 32 rfl W.heap.size 5 i0 _ 1 underlying32 hi hz0 hz1 hz2 rfl v _ _ rfl fQ.out ab m cb (fun t=>aS (body.getD t 0)) rfl ?nil ?row ?one ?b1 ?b2 ?base ?_));(case nil=>obtain ⟨a',c',e,_,_,hn,_⟩:=dN.open PL.out;simp only [Value.slice.injEq] at e;obtain ⟨rfl,_,rfl⟩:=e;intro h;have:=hn h;exact ⟨by rw [mh.out];exact this.1,this.2⟩);(case row=>exact (dN.row PL.out).2);(case one=>intro t _;rfl);(case b1=>unfold maxLen;omega);(case b2=>omega);(case base=>have:=HZ2.out;omega);intro v3 w3 g1 g2;have sH:(List.range m).map (fun t=>aS (body.getD t 0))=body.map aS:=(by rw [mh.out];refine List.ext_getElem aC fun t q1 q2=>?_;simp only [List.getElem_map,List.getElem_range];rw [List.getD,List.getElem?_eq_getElem (by simpa using q2)];rfl);have gW:=hid (show w3.ownsRow W.heap.size 5 1 v3 (post L (j+1)).length ((post L (j+1)).map aS) by rw [←nU.out,List.map_append,List.length_append,←wZ.out,←mh.out,←sH];exact g1);have HB3:=hid (dK.out.grown g2 (by have:=HZ2.out;omega) (fun k hk=>(HOL.out k hk).1));clear g1 g2 sH;go_wp2;go_roundw
       (case rel=>exact ⟨j+1,v3,aj,aN,rfl,gW,HB3⟩);case measure=>simp [intOf];omega
     · obtain rfl:j=i:=aj;have hpa:post L j=Bx.file L:=(by rw [HN.out];exact PG L);rw [hpa,Bx.Ck] at HO;clear hpa;go_wp2;go_ret2
       exact ⟨v,rfl,HB.out,HO.out⟩
end Go.Proofs.YtjaebndajhppgaaGreatDoor
