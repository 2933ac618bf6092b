/-GRe3-/
import Derived.Test.YtjaebndajhppgaaGreatDoorMlHd1
import Derived.Test.YtjaebndajhppgaaGreatDoorMlGBx2
import Derived.Deep.DeepCutAuto
import Derived.Lib.SliceRun
import Derived.Deep.RegionLaw
set_option linter.unusedVariables false
set_option maxRecDepth 100000
set_option linter.unusedSimpArgs false
set_option maxHeartbeats 2000000
namespace Go.Proofs.YtjaebndajhppgaaGreatDoor
open Go.Proofs.Tryz
open Go Go.ChangeShapes Go.WideShapes Go.ChangeAt Go.RowKit
theorem Qb (v:Value) (l:List Nat) (w:World) (hR:BytesAt w v l) (hb:∀ i,l.getD i 0<256) :
  Calls prog 70 #[v] w fun e w'=>e=.returned (.int .i64 (Cr.sum l:Nat))∧w=w':=by
 obtain ⟨a,cap,rfl,h1,h2,h3,hr⟩:=hR;obtain ⟨n,hn⟩:=aA l.length;rw [←hn] at h1 hr ⊢;have hnm:n≤9223372036854775807:=by unfold maxLen at h2;omega
 have HN:=hid hn;have HR:=hid hr;have HB:=hid hb;clear hn hr hb h3;go_enter func70,ntmps70;go_wp2;go_loop [3,4] (fun s3 s4=>∃ i:Nat,i≤n∧s3=.int .i64 (Cr.sum (l.take i):Nat)∧s4=.int .i64 i) (fun _ s4=>n-(intOf s4).toNat)
 case atStart=>exact ⟨0,aj,rfl,rfl⟩
 case round=>
  obtain ⟨i,hi,rfl,rfl⟩:=hrel;by_cases hlt:i<n
  · obtain ⟨b,off,rfl,hc⟩:=HR.out.get hlt;have c0:=hc i hlt;have hcb:=HB.out i;have hs0:=Cr.sum_lt _ (Cr.OX i HB.out);have HT:=hid (Cr.OW Cr.start l i (by rw [←HN.out];exact hlt));obtain ⟨c,hc0⟩:=aA (l.getD i 0);obtain ⟨s,hs1⟩:=aA (Cr.sum (l.take i));rw [show Cr.run Cr.start (l.take i)=s from hs1.symm,←hc0] at HT;rw [←hs1] at hs0 ⊢;rw [←hc0] at hcb c0;simp only [aS] at c0;obtain ⟨x0,hx0⟩:=aA (s ^^^ (65536*c));have hx16:=Cr.O_ s c hs0 hcb;have hlt2:x0<2 ^ 24:=(by rw [hx0];exact Cr.in_lt s c hs0 hcb);have HST:=hid (show Cr.sum (l.take (i+1))=Cr.Tn 8 x0 by rw [hx0];exact HT.out);rw [←hx0] at hx16;have HL:=hid (fun k=>Cr.Gy k x0 hlt2);clear hc hs1 hc0 hx0 hlt2 HT;go_wp2;go_loop [3,5] (fun s3 s5=>∃ k:Nat,k≤8∧s3=.int .i64 (Cr.Tn k x0:Nat)∧s5=.int .i64 k) (fun _ s5=>8-(intOf s5).toNat)
    (case atStart=>exact ⟨0,aj,rfl,rfl⟩);case round=>
     obtain ⟨k,hk,rfl,rfl⟩:=hrel;have hx:=HL.out k;have hT:Cr.Tn (k+1) x0=Cr.T (Cr.Tn k x0):=rfl;by_cases hkl:k<8
     · obtain ⟨x,hx0⟩:=aA (Cr.Tn k x0);rw [←hx0] at hx hT ⊢;have hx24:x<16777216:=hx;have hxg:=Cr.Pb x hx24;have htop:=Cr.top x hx24;by_cases h:8388608≤x
       · have jc:Cr.Tn (k+1) x0=(2*x) ^^^ 25578747:=(by rw [hT];unfold Cr.T;rw [htop,decide_eq_true h];rfl);obtain ⟨y,hy⟩:=aA ((2*x) ^^^ 25578747);rw [←hy] at hxg jc;have HT:=hid jc;have hge:decide ((16777216:Int)≤(x:Int)*2)=true:=(by rw [decide_eq_true_iff];omega);clear hT jc hx0 htop hy hx h hs0 hcb;go_wp2;go_round
         (case rel=>exact ⟨k+1,aj,by rw [HT.out],aN⟩);case measure=>simp [intOf];omega
       · have jc:Cr.Tn (k+1) x0=2*x:=(by rw [hT];unfold Cr.T;rw [htop,decide_eq_false h];simp);have HT:=hid jc;have hge:decide ((16777216:Int)≤(x:Int)*2)=false:=(by rw [decide_eq_false_iff_not];omega);clear hT jc hx0 htop hx hxg h hs0 hcb;go_wp2;go_round
         (case rel=>exact ⟨k+1,aj,by rw [HT.out];go_num,aN⟩);case measure=>simp [intOf];omega
     · obtain rfl:k=8:=aj;clear hT hx;go_wp2;go_round
       (case rel=>exact ⟨i+1,aj,by rw [HST.out],aN⟩);case measure=>simp [intOf];omega
  {obtain rfl:i=n:=aj;have HF:=hid (show l.take i=l by rw [HN.out,List.take_length]);go_wp2;go_ret;exact ⟨by rw [HF.out];rfl,rfl⟩}
theorem acP (a:Option Addr) (n cap:Nat) (L:List Bx.cK) (W:World) (hn:n=L.length) (h:jM W (.slice a n cap) L) (G7:n≤500) (hsz:Bx.sizes L≤90000) (hb:∀ s∈L,-9223372036854775808≤s.1∧s.1≤9223372036854775807) :
  Calls prog 68 #[.slice a n cap] W fun e W'=>e=.returned (.bool (Bx.nT L))∧Below W.heap.size W W':=by
 have HN:=hid hn;have HS:=hid h;have qp:=hid hb;have yx:=hid hsz;clear hn h hb hsz;obtain ⟨r,hr⟩:=aA (Bx.nT L);rw [←hr];have HM:=hid (show r=(decide (n≤8) && Bx.jf 0 L && decide (Bx.total L≤100000)) by rw [hr,HN.out];rfl);clear hr;go_enter func68,ntmps68;go_wp2;go_loopw [3,4] (fun s3 s4 wr=>∃ (i z:Nat),i≤n∧s4=.int .i64 i∧s3=.int .i64 z∧z≤100000∧Hid (z+Bx.sizes (L.drop i)=Bx.total L)∧Hid (∃ p:Int,0≤p∧Bx.jf p (L.drop i)=Bx.jf 0 L∧(i=0→p=0)∧∀ j (h:j<L.length),i=j+1→p=L[j].1)∧Hid (∃ q,wr=W.drewN q)) (fun _ s4 _=>n-(intOf s4).toNat)
 case atStart=>exact ⟨0,9+7*n,aj,rfl,aC,aj,hid (by rw [List.drop_zero,HN.out];rfl),hid ⟨0,aj,by rw [List.drop_zero],fun _=>rfl,fun j _ e=>aj⟩,hid ⟨0,rfl⟩⟩
 case round=>
  obtain ⟨i,z,hin,rfl,rfl,hz,HZ,HP,HW⟩:=hrel;obtain ⟨q0,hq0⟩:=HW.out;subst hq0;clear HW;by_cases hlt:i<n
  · have hlt':i<L.length:=(by rw [←HN.out];exact hlt);obtain ⟨b,off,rfl,hc⟩:=HS.out.get hlt';obtain ⟨ab,cb,d0,d1,h1,h2,_⟩:=vI (hc i hlt');have hbd:=qp.out L[i] (List.getElem_mem _);have hsl:=Bx.size_le (List.getElem_mem hlt');have hr:=Bx.O8 L;obtain ⟨p,hp0,hp1,hp2,hp3⟩:=HP.out;have hrd:=hr p i hlt';have Cu:=hid (Bx.O9 L i hlt');have hnew:∀ j (h:j<L.length),i+1=j+1→L[i].1=L[j].1:=fun j _ e=>(by obtain rfl:i=j:=aj;rfl);have acQ:i=0∨∃ j,∃ h:j<L.length,i=j+1∧p=L[j].1∧W.cell? ⟨b,off+j*2,none⟩=some (.int .i64 p):=by
     cases i with
     | zero=>exact Or.inl rfl
     | succ j=>have hj:j<L.length:=aj;refine Or.inr ⟨j,hj,rfl,hp3 j hj rfl,?_⟩;rw [hp3 j hj rfl];exact (hc j hj).1
    have Qc:=hid hnew;have HSL:=hid hsl;have G8:=hid (show Bx.jf 0 L=((decide (p<L[i].1) && decide (L[i].1≤255)) && Bx.jf L[i].1 (L.drop (i+1))) by rw [←hp1];exact hrd);generalize acR:L[i].1=id at *;have OP:L[i].2.length≤90000:=(by have:=yx.out;omega);generalize L[i].2.length=m at *;have acS:=hp2;have lD:=hid hp2;clear hc hr hrd hp1 hp2 acS hp3 acR hnew hsl HP;have nG:(i:Int)<n:=aj;have hm6:decide (100000<(m:Int))=false:=decide_eq_false aj;have Qd:(¬ p<id∨¬ id≤255)→r=false:=fun hh=>(by rw [HM.out,G8.out];rcases hh with hh | hh;{rw [decide_eq_false hh];simp};{rw [decide_eq_false hh];simp});have tH:=hid Qd;clear Qd;rcases acQ with h0 | ⟨j,hj,hij,hpj,e0⟩
    · have hpz:p=0:=lD.out h0;subst hpz;subst h0;rw [Nat.zero_mul,Nat.add_zero] at d0 d1;rcases (show id<1∨(1≤id∧255<id)∨(1≤id∧id≤255) by omega) with g1 | ⟨g1,g2⟩ | ⟨g1,g2⟩;{have HF:=hid (tH.out (Or.inl aj));have b1:decide (id<1)=true:=decide_eq_true g1;go_wp2;(go_quiet (fail));go_wp2;go_ret;exact ⟨iC HF.out.symm,cB (cB (Below.refl _ _) _) _⟩};{have HF:=hid (tH.out (Or.inr aj));have b1:decide (id<1)=false:=decide_eq_false aj;have b2:decide (255<id)=true:=decide_eq_true g2;go_wp2;(go_quiet (fail));go_wp2;go_ret;exact ⟨iC HF.out.symm,cB (cB (Below.refl _ _) _) _⟩}
      · have b1:decide (id<1)=false:=decide_eq_false aj;have b2:decide (255<id)=false:=decide_eq_false aj;go_wp2;(go_quiet (fail));go_wp2;go_roundw
        (case rel=>exact ⟨0+1,z+m,aj,aN,aN,by have:=HZ.out;have:=HN.out;have:=Cu.out;have:=yx.out;have:=Bx.Gz L 0;unfold Bx.total at *;omega,hid (by have:=HZ.out;have:=Cu.out;omega),hid ⟨id,aj,by rw [G8.out,decide_eq_true aj,decide_eq_true aj];rfl,fun e=>aj,fun j h e=>Qc.out j h e⟩,hid ⟨q0+nq,by first | rfl | rw [World.drewN_drewN]⟩⟩);case measure=>simp [intOf];omega
    · subst hij;clear hpj;have hj1:(j:Int)+1<n:=aj;have hgt:decide ((0:Int)<((j+1:Nat):Int))=true:=decide_eq_true aj;have hgt2:decide ((0:Int)<(j:Int)+1)=true:=decide_eq_true aj;rcases (show id<1∨(1≤id∧255<id)∨(1≤id∧id≤255∧id≤p)∨(1≤id∧id≤255∧p<id) by omega) with g1 | ⟨g1,g2⟩ | ⟨g1,g2,g3⟩ | ⟨g1,g2,g3⟩;{have HF:=hid (tH.out (Or.inl aj));have b1:decide (id<1)=true:=decide_eq_true g1;go_wp2;(go_quiet (fail));go_wp2;go_ret;exact ⟨iC HF.out.symm,cB (cB (Below.refl _ _) _) _⟩};{have HF:=hid (tH.out (Or.inr aj));have b1:decide (id<1)=false:=decide_eq_false aj;have b2:decide (255<id)=true:=decide_eq_true g2;go_wp2;(go_quiet (fail));go_wp2;go_ret;exact ⟨iC HF.out.symm,cB (cB (Below.refl _ _) _) _⟩};{have HF:=hid (tH.out (Or.inl aj));have b1:decide (id<1)=false:=decide_eq_false aj;have b2:decide (255<id)=false:=decide_eq_false aj;have b3:decide (id≤p)=true:=decide_eq_true g3;go_wp2;(go_quiet (fail));go_wp2;go_ret;exact ⟨iC HF.out.symm,cB (cB (Below.refl _ _) _) _⟩}
      · have b1:decide (id<1)=false:=decide_eq_false aj;have b2:decide (255<id)=false:=decide_eq_false aj;have b3:decide (id≤p)=false:=decide_eq_false aj;go_wp2;(go_quiet (fail));go_wp2;go_roundw
        (case rel=>exact ⟨j+1+1,z+m,aj,aN,aN,by have:=HZ.out;have:=HN.out;have:=Cu.out;have:=yx.out;have:=Bx.Gz L 0;unfold Bx.total at *;omega,hid (by have:=HZ.out;have:=Cu.out;omega),hid ⟨id,aj,by rw [G8.out,decide_eq_true aj,decide_eq_true aj];rfl,fun e=>aj,fun j h e=>Qc.out j h e⟩,hid ⟨q0+nq,by first | rfl | rw [World.drewN_drewN]⟩⟩);case measure=>simp [intOf];omega
  {obtain rfl:i=n:=aj;have hd:L.drop i=[]:=List.drop_of_length_le (by rw [←HN.out];exact Nat.le_refl _);have hz1:=HZ.out;obtain ⟨p,_,hp1,_⟩:=HP.out;rw [hd] at hz1 hp1;have hz2:z=Bx.total L:=hz1;have hr2:Bx.jf 0 L=true:=hp1.symm;have HF:=hid (show r=(decide (i≤8) && decide (z≤100000)) by rw [HM.out,hr2,hz2,Bool.and_true]);clear hz1 hp1 hz2 hr2 hd HZ HP HM;by_cases h8:i≤8;{have h8I:(i:Int)≤8:=aj;go_wp2;go_ret;exact ⟨iC (by rw [HF.out,decide_eq_true h8,Bool.true_and,decide_eq_decide];omega),cB (Below.refl _ _) _⟩};{have h8I:(8:Int)<i:=aj;go_wp2;go_ret;exact ⟨iC (by rw [HF.out,decide_eq_false h8];rfl),cB (Below.refl _ _) _⟩}}
theorem G9 (k:Nat) (W:World) (hk:k<16777216) :
  Calls prog 69 #[.int .i64 k] W fun e W'=>e=.returned (.slice (some ⟨W.heap.size,0,none⟩) 3 3)∧W'=W.alloc (.cells ((Bx.three k).map aS).toArray 5):=by have e1:(k:Int) / 65536=((k / 65536 % 256:Nat):Int):=aj;have e2:(k:Int) / 256 % 256=((k / 256 % 256:Nat):Int):=aj;have e3:(k:Int) % 256=((k % 256:Nat):Int):=aj;have EE:=hid (show (#[Value.int .u8 ((k:Int) / 65536),Value.int .u8 ((k:Int) / 256 % 256),Value.int .u8 ((k:Int) % 256)]:Array Value)=((Bx.three k).map aS).toArray by rw [e1,e2,e3];rfl);clear e1 e2 e3;go_enter func69,ntmps69;go_wp2;go_ret;exact ⟨rfl,by rw [EE.out]⟩
theorem Qe {w:World} {P:Program} {ops:Array Oper} {o:Oper} {a:Act} {K:Act→World→Prop} {Q:Exit→Act→World→Prop} {E:Prop} (hgd:o.guard=none) (s x:Operand) (t:TypeId)
  (ho:o.op=.call { callee:=.builtin .append,args:=#[s,x],argTypes:=#[t,t] })
  (base:Nat) (e:TypeId) (i:TypeInfo) (z:Value) (bytes:Nat) (ht:P.underlying t=some (.slice e)) (hi:P.info? e=some i) (hz:i.zero=some z)
  (hsize:i.size=1) (hby:i.bytes=bytes) (hzs:z.cells.size=1)
  (v:Value) (n:Nat) (xs:List Value) (us:List Value) (m:Nat) (hm:m=us.length) (hs:a.eval s=v) (hown:w.ownsRow base e 1 v n xs)
  (H:Nat) (hx:a.eval x=.slice (some ⟨H,0,none⟩) m m) (hc:∀ j u,us[j]?=some u→w.cell? ⟨H,j,none⟩=some u) (h1:∀ u∈us,u.oneCell'=true)
  (h63:n+m≤maxLen) (hbytes:(n+m)*bytes≤140737488355328) (hbase:base≤w.heap.size)
  (h:∀ v' w',w'.ownsRow base e 1 v' (n+m) (xs++us)→w.grownBy w' v.ownBlock→Moved w v v'→K (a.put o.dst v') w') :
  if Region.wanted o (yielded ops a.tmps)=true then Oper.wp P o a w K Q else E:=by
 have hwd:Region.wanted o (yielded ops a.tmps)=true:=by simp [Region.wanted,hgd]
 rw [if_pos hwd];subst hm;obtain ⟨v',w',hr,h2,h3,h4⟩:=vS (P:=P) (w:=w) base t o.type e i z 1 bytes ht hi hz hsize hby hzs aH v n xs hown ⟨H,0,none⟩ us.length us.length us aC (by intro j u' hu;rw [ji rfl,Nat.zero_add];exact hc j u' hu) h1 h63 hbytes hbase;have hk:=h v' w' h2 h3 h4;unfold Oper.wp execOp;simp only [ho,resolve,invoke,builtin,Sem.run_bind,Sem.run_pure,Result.andThen_ok,List.map_toArray,List.map_cons,List.map_nil,hs,hx,hr];exact hk
theorem acT (a:Option Addr) (n cap:Nat) (L:List Bx.cK) (W:World) (hn:n=L.length) (h:jM W (.slice a n cap) L) (G7:n≤500) (hsz:Bx.sizes L≤90000) (hM:Bx.May L) (hby:Bx.Bytes L) :
  Calls prog 28 #[.slice a n cap] W fun e W'=>∃ v,e=.returned (.tuple #[v,.int .i64 0])∧Below W.heap.size W W'∧W'.ownsRow W.heap.size 5 1 v (Bx.total L) ((Bx.file L).map aS):=by
 obtain ⟨i0,hi,hz0,hz1,hz2⟩:=info_parts Tryz.infobx5;have hbd:∀ s∈L,(1≤s.1∧s.1≤255)∧s.2.length≤100000:=fun s hs=>by have h1:=Bx.OZ hM.2.1 s hs;have h2:=Bx.size_le hs;have h3:=hM.2.2;unfold Bx.total at h3;omega
 have MB:=hid (acP a n cap L W hn h G7 hsz (fun s hs=>by have:=hbd s hs;omega));rw [(Bx.O7 L).2 hM] at MB;have HN:=hid hn;have HS:=hid h;have HM:=hid hM;have GJ:=hid hby
 have qp:=hid hbd;have yD:n≤8:=by have:=hM.1;omega
 have htot:=hM.2.2;have hlen:L.length % 256=n:=aj;have HLEN:=hid hlen;clear hn h hM hby hbd hlen hsz G7;go_enter func28,ntmps28;go_upto_region 3 with (go_at_call 68;refine MB.out.mono ?_;rintro e w1 ⟨rfl,hB1⟩)
 have HB1:=hid hB1;clear hB1 MB;have hz1':=HB1.out.size;have acU:(n:Int) % 256=n:=aj;have kc:=fun (w:World) (C:Array Value) (n c:Nat)=>Lib.run_convert_bytes_const (P:=prog) w 32 5 C n c underlying32 underlying5;go_wp2_with (at_builtin;go_loud (refine Pt rfl (.tmp 11) (.tmp 15) 32 rfl 5 i0 _ 1 underlying32 hi hz0 hz1 hz2 rfl w1.heap.size 4 ([84,82,73,86].map aS) rfl rfl ?holds (w1.heap.size+1) 2 2 ([1,n].map aS) rfl rfl ?news ?one aH ?b1 ?b2 ?_))
 case holds=>intro j u hj;rw [World.cell?_alloc_lt _ _ _ aC];rw [gB];simpa [aS] using hj
 case news=>intro j u hj;rw [World.cell?_alloc_at _ _ _ _ aC];simpa [aS] using hj
 case one=>intro u hu;obtain ⟨c,_,rfl⟩:=List.mem_map.1 hu;rfl
 case b1=>unfold maxLen;omega
 case b2=>omega
 intro v4 w4 hown hb4;have hpre:(pre L 0).map aS=[aS 84,aS 82,aS 73,aS 86,aS 1,aS n]:=by unfold pre;rw [HLEN.out];rfl
 have mZ:=hid (show w4.ownsRow W.heap.size 5 1 v4 6 ((pre L 0).map aS) by rw [hpre];exact yS hown aj);have aP:=hid (show Below W.heap.size W w4 from by refine (((HB1.out.alloc hz1' _).alloc (by simp;omega) _)).trans (hb4.mono aj));clear hown hb4 hpre kc acU;go_wp2;go_loopw [4,5] (fun s4 s5 wr=>∃ (i:Nat) (v:Value),i≤n∧s5=.int .i64 i∧s4=v∧Hid (wr.ownsRow W.heap.size 5 1 v (6+7*i) ((pre L i).map aS))∧Hid (Below W.heap.size W wr)) (fun _ s5 _=>n-(intOf s5).toNat)
 case atStart=>exact ⟨0,v4,aj,rfl,rfl,mZ,aP⟩
 case round=>
  obtain ⟨i,v,hin,rfl,hv,HO,HB⟩:=hrel;have hv2:=hv.symm;subst hv2;clear hv;by_cases hlt:i<n
  · have hlt':i<L.length:=(by rw [←HN.out];exact hlt);obtain ⟨b,off,rfl,hc⟩:=HS.out.get hlt';obtain ⟨ab,cb,D0,D1,h1,h2,hbody⟩:=vI (hc i hlt');have HD1:=hid D1;have d0:=aB HB.out D0;have d1:=aB HB.out D1;have hbd:=qp.out L[i] (List.getElem_mem _);have hby:=GJ.out L[i] (List.getElem_mem _);have hsn:=Pz L i hlt';generalize L[i]=s at *;obtain ⟨id,body⟩:=s;simp only at *;obtain ⟨k,rfl⟩:∃ k:Nat,id=k:=⟨id.toNat,aj⟩;have hk:(((k:Int) % 256).toNat)=k:=aj;rw [hk] at hsn;have nG:(i:Int)<n:=aj;obtain ⟨m,hm⟩:=aA body.length;rw [←hm] at d1 h1 hbd hsn hbody HD1;unfold maxLen at h2;have nU:=hid hsn;have rC:=hid hbody;have GK:=hid hby
    have hsm:=Cr.sum_lt body hby
    have mD:=HB.out.size;clear hc hm hk hsn hby hbody D0 D1;(go_upto_region 7 with fail);have hkW:IntKind.u8.wrap (k:Int)=(k:Int):=(by show (k:Int) % 256=k;omega);have hblt:b<wr.heap.size:=lt_of_cell d1;have hbne:b≠wr.heap.size:=aj;go_cut [4] (fun s4 wx=>∃ v6,s4=v6∧Hid (wx.ownsRow W.heap.size 5 1 v6 (6+7*i+1+3) ((pre L i++[k]++Bx.three m).map aS))∧Hid (Below W.heap.size W wx))
    case first=>
     go_region_law (first
      | (refine Qe (by rfl) (.tmp 23) (.tmp 30) 32 (by rfl) W.heap.size 5 i0 _ 1 underlying32 hi hz0 hz1 hz2 rfl v _ _ ([k].map aS) 1 rfl (by rfl) (Cm HO.out (((Below.refl _ _).drew).alloc ay _)) wr.heap.size (by rfl) ?c1 ?o1 ?b1 ?b2 ?b3 ?_
         case c1=>(intro j u hj;refine (gB wr.drew _ _ _ j).trans ?_;simpa [aS] using hj)
         case o1=>(intro u hu;obtain ⟨c,_,rfl⟩:=List.mem_map.1 hu;rfl)
         case b1=>(unfold maxLen;omega)
         case b2=>omega
         case b3=>(simp;omega)
         intro v3 w3 g1 g2 g3
         have HB3:=hid (((HB.out.drew).alloc mD _).grown g2 (by simp;omega) (fun k hk=>(HO.out.lt k hk).1))
         have k1:=aB HB3.out HD1.out
         have G1:=hid g1
         clear g1 g2 g3)
      | (go_simp;go_at_call 69;refine (G9 m _ aj).mono ?_;rintro e w' ⟨rfl,rfl⟩)
      | (refine Qe (by rfl) (.tmp 31) (.tmp 38) 32 (by rfl) W.heap.size 5 i0 _ 1 underlying32 hi hz0 hz1 hz2 rfl v3 _ _ ((Bx.three m).map aS) 3 rfl (by rfl) (G1.out.alloc _) w3.heap.size (by rfl) ?c2 ?o2 ?b4 ?b5 ?b6 ?_
         case c2=>(intro j u hj;rw [gB];simpa using hj)
         case o2=>(intro u hu;obtain ⟨c,_,rfl⟩:=List.mem_map.1 hu;rfl)
         case b4=>(unfold maxLen;omega)
         case b5=>omega
         case b6=>(have:=HB3.out.size;simp;omega)
         intro v5 w5 g1 g2 g3
         have aR:=hid ((HB3.out.alloc HB3.out.size _).grown g2 (by have:=HB3.out.size;simp;omega) (fun k hk=>(G1.out.lt k hk).1))
         have G5:=hid g1
         clear g1 g2 g3))
     all_goals
      go_wp2_with fail
      go_meet
      exact ⟨_,rfl,hid (by rw [List.map_append,List.map_append];exact G5.out),aR⟩
    case rest=>
     obtain ⟨v6,hv6,qw,aO⟩:=hcut;have acV:=hv6.symm;subst acV;clear hv6 d0 d1 hblt hbne hkW;have d1:=aB aO.out HD1.out;have gP:=aO.out.size;have CS:=hid (Qb (.slice ab m cb) body wc (rC.out.keep aO.out) GK.out);have TH:=hid (G9 (Cr.sum body) wc hsm);go_wp2_with (first
      | (go_at_call 70;refine CS.out.mono ?_;rintro e w' ⟨rfl,fU⟩;subst fU)
      | (go_at_call 69;refine TH.out.mono ?_;rintro e w' ⟨rfl,rfl⟩)
      | (at_builtin;refine vY rfl (.tmp 40) (.tmp 47) 32 rfl W.heap.size 5 i0 _ 1 underlying32 hi hz0 hz1 hz2 rfl v6 _ _ ((Bx.three (Cr.sum body)).map aS) 3 rfl wc rfl rfl qw.out wc.heap.size rfl rfl ?one ?b1 ?b2 gP ?_))
     (case one=>intro u hu;obtain ⟨c,_,rfl⟩:=List.mem_map.1 hu;rfl);(case b1=>unfold maxLen;omega);(case b2=>omega);intro v7 w7 g1 g2 g3;have lY:=hid (show w7.ownsRow W.heap.size 5 1 v7 (6+7*i+1+3+3) ((pre L (i+1)).map aS) by rw [←nU.out];simpa only [List.map_append,List.map_cons,List.map_nil,List.append_assoc,List.cons_append,List.nil_append] using g1);have bF:=hid (aO.out.grown g2 gP (fun k hk=>(qw.out.lt k hk).1));clear g1 g2 g3 CS TH;go_wp2;go_roundw
     (case rel=>exact ⟨i+1,v7,aj,aN,rfl,hid (by rw [show 6+7*(i+1)=6+7*i+1+3+3 by omega];exact lY.out),bF⟩);case measure=>simp [intOf];omega
  · obtain rfl:i=n:=aj;have hpa:pre L i=Bx.head L:=(by rw [HN.out];exact Py L);rw [hpa] at HO;have tN:=Pw (Px L);have hsl:=Cr.sum_lt _ tN;have qx:=Bx.vF L;rw [←HN.out] at qx;have o8:=hid tN;obtain ⟨a5,cap5,hv,_,_,_,_⟩:=tX HO.out;subst hv;have mD:=HB.out.size;have yT:=hid (Pv HO.out qx.symm);have CS:=hid (Qb _ _ wr yT.out o8.out);have TH:=hid (G9 (Cr.sum (Bx.head L)) wr hsl);have GQ:=hid qx;clear hpa tN qx;go_wp2_with (first
     | (go_at_call 70;refine CS.out.mono ?_;rintro e w' ⟨rfl,fU⟩;subst fU)
     | (go_at_call 69;refine TH.out.mono ?_;rintro e w' ⟨rfl,rfl⟩)
     | (at_builtin;refine vY rfl (.tmp 49) (.tmp 52) 32 rfl W.heap.size 5 i0 _ 1 underlying32 hi hz0 hz1 hz2 rfl (.slice a5 (6+7*i) cap5) _ _ ((Bx.three (Cr.sum (Bx.head L))).map aS) 3 rfl wr rfl rfl HO.out wr.heap.size rfl rfl ?one ?b1 ?b2 mD ?_))
    (case one=>intro u hu;obtain ⟨c,_,rfl⟩:=List.mem_map.1 hu;rfl);(case b1=>unfold maxLen;omega);(case b2=>omega);intro v6 w6 g1 g2 g3;rw [←List.map_append,PE] at g1;have lY:=hid g1;have aO:=hid (HB.out.grown g2 mD (fun k hk=>(HO.out.lt k hk).1));clear g1 g2 g3 yT CS TH;have mE:6+7*i+3=(post L 0).length:=(by unfold post;rw [List.length_append,List.length_append,Bx.vF,Bx.Cj,←HN.out];simp [Bx.bodies]);rw [mE] at lY;clear mE HO mZ aP GQ hsl mD;go_wp2;go_loopw [4,6] (fun s4 s6 wr=>∃ (j:Nat) (v:Value),j≤i∧s6=.int .i64 j∧s4=v∧Hid (wr.ownsRow W.heap.size 5 1 v (post L j).length ((post L j).map aS))∧Hid (Below W.heap.size W wr)) (fun _ s6 _=>i-(intOf s6).toNat)
    (case atStart=>exact ⟨0,v6,aj,rfl,rfl,lY,aO⟩);case round=>
     obtain ⟨j,v,hji,rfl,hv,HO,HB⟩:=hrel;have hv2:=hv.symm;subst hv2;clear hv;by_cases hlt2:j<i
     · have hlt':j<L.length:=(by rw [←HN.out];exact hlt2);obtain ⟨b,off,rfl,hc⟩:=HS.out.get hlt';obtain ⟨ab,cb,d0,d1,h1,h2,hbody⟩:=vI (hc j hlt');have d1:=aB HB.out d1;have hbd:=qp.out L[j] (List.getElem_mem _);have hsn:=PI L j hlt';have hpl:=PD L (j+1);generalize L[j]=s at *;obtain ⟨id,body⟩:=s;simp only at *;rw [←hsn,List.length_append] at hpl;have nG:(j:Int)<i:=aj;obtain ⟨m,hm⟩:=aA body.length;rw [←hm] at d1 h1 hbd hbody hpl;unfold maxLen at h2;have mh:=hid hm;have nU:=hid hsn;have rC:=hid (hbody.keep HB.out);have mD:=HB.out.size;have HOL:=hid (fun g hg=>HO.out.lt g hg:∀ g,v.ownBlock=some g→W.heap.size≤g∧g<wr.heap.size);obtain ⟨pl,mE⟩:=aA ((post L j).length);rw [←mE] at HO hpl;have wZ:=hid mE;clear hc hm hsn hbody mE d0;(go_wp2_with (at_builtin;refine n_ rfl (.tmp 60) (.tmp 65) 32 rfl W.heap.size 5 i0 _ 1 underlying32 hi hz0 hz1 hz2 rfl v _ _ rfl HO.out ab m cb (fun t=>aS (body.getD t 0)) rfl ?nil ?row ?one ?b1 ?b2 ?base ?_));(case nil=>obtain ⟨a',c',e,_,_,hn,_⟩:=dN.open rC.out;simp only [Value.slice.injEq] at e;obtain ⟨rfl,_,rfl⟩:=e;intro h;have:=hn h;exact ⟨by rw [mh.out];exact this.1,this.2⟩);(case row=>exact (dN.row rC.out).2);(case one=>intro t _;rfl);(case b1=>unfold maxLen;omega);(case b2=>omega);(case base=>exact mD);intro v3 w3 g1 g2;have sH:(List.range m).map (fun t=>aS (body.getD t 0))=body.map aS:=(by rw [mh.out];refine List.ext_getElem aC fun t q1 q2=>?_;simp only [List.getElem_map,List.getElem_range];rw [List.getD,List.getElem?_eq_getElem (by simpa using q2)];rfl);have gW:=hid (show w3.ownsRow W.heap.size 5 1 v3 (post L (j+1)).length ((post L (j+1)).map aS) by rw [←nU.out,List.map_append,List.length_append,←wZ.out,←mh.out,←sH];exact g1);have HB3:=hid (HB.out.grown g2 mD (fun k hk=>(HOL.out k hk).1));clear g1 g2 sH;go_wp2;go_roundw
       (case rel=>exact ⟨j+1,v3,aj,aN,rfl,gW,HB3⟩);case measure=>simp [intOf];omega
     · obtain rfl:j=i:=aj;have hpa:post L j=Bx.file L:=(by rw [HN.out];exact PG L);rw [hpa,Bx.Ck] at HO;clear hpa;go_wp2;go_ret2
       exact ⟨v,rfl,HB.out,HO.out⟩
end Go.Proofs.YtjaebndajhppgaaGreatDoor
