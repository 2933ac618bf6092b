/-SoId-/
import Derived.Test.YtjaebndajhppgaaGreatDoorMlHd1
import Derived.Test.YtjaebndajhppgaaGreatDoorMlSoOf
import Derived.Test.YtjaebndajhppgaaGreatDoorMlSoEnc2
import Derived.Test.YtjaebndajhppgaaGreatDoorMlGRe2
import Derived.Test.YtjaebndajhppgaaGreatDoorMlGRe3
import Derived.Deep.RegionLaw
import Derived.Deep.RegionHeld3
import Derived.Test.YtjaebndajhppgaaGreatDoorMlGSo3
set_option linter.unusedVariables false
set_option linter.unusedSimpArgs false
set_option maxRecDepth 100000
set_option maxHeartbeats 8000000
namespace Go.Proofs.YtjaebndajhppgaaGreatDoor
open Go.Proofs.Tryz
open Go.ChangeShapes Go.WideShapes Go.ChangeAt Go.RowKit Go.Sort
theorem Cv {w:World} {base:Nat} {v:Value} {N:Nat} {l:List Nat} (h:w.ownsRow base 5 1 v N (l.map aS)) (hn:N=l.length):∃ a c,v=.slice a N c∧Hid (BytesAt w (.slice a N c) l):=by have hy:BytesAt w v l:=dN.own h hn;have HY:=hid hy;subst hn;obtain ⟨a,c,rfl,_⟩:=hy;exact ⟨a,c,rfl,HY⟩
theorem Qf {w:World} {base:Nat} {v:Value} {N:Nat} {xs ys:List Value} (h:w.ownsRow base 5 1 v N xs) (e:xs=ys):w.ownsRow base 5 1 v N ys:=e ▸ h
theorem Qg {w:World} {base:Nat} {v:Value} {N:Nat} {l:List Nat} (h:w.ownsRow base 5 1 v N (l.map aS)) (hn:N=l.length):Hid (BytesAt w v l):=hid (dN.own h hn)
theorem acW {W w:World} {o:Obj} {v:Value} {n:Nat} {xs:List Value} {t:TypeId} (h:w.ownsRow (W.alloc o).drew.heap.size t 1 v n xs):(Value.slice (some ⟨W.heap.size,0,none⟩) 2 2).ownBlock≠v.ownBlock:=fun e=>by have h1:=(h.lt W.heap.size e.symm).1;have h2:(W.alloc o).drew.heap.size=W.heap.size+1:=aC;omega
theorem acX (L:List TR) (hl:∀ t∈L,Tm.bG t=true) (hn:L.length≤100) (p:Nat) (w:World) (h:tJ w p L) :
  Calls prog 45 #[.pointer (some ⟨p,0,none⟩)] w fun e w'=>∃ v,e=.returned v∧w'.ownsRow w.heap.size 5 1 v (So.file L).length ((So.file L).map aS)∧Below w.heap.size w w':=by
 have H:=hid h;obtain ⟨vt,ve,vs,vi,h1,h2,h3,h4,h5⟩:=h;have PK:=hid (fun W a n cap (hR:gN W a n fun i=>.int .i64 ((So.jg L).getD i 0)) (e:n=3*L.length)=>acM a n cap (So.wid L) (So.jg L) W (by rw [e,So.vG]) (So.Pj hn) hR);have RB:=hid (fun (v:Value) (W:World) (h:lU W v (So.texts L))=>acO v (So.texts L) W h (So.yR hl hn));have BP:=hid (fun (a:Option Addr) (cap:Nat) (W:World) (h:jM W (.slice a 2 cap) (So.secs L))=>acT a 2 cap (So.secs L) W rfl h aj (by have h1:=So.Pk hl hn;have h2:=So.Pn hn;show (So.nY L).length+((So.jh L).length+0)≤90000;omega) (So.Po hl hn) (So.Pq hl hn));have H4:=hid (show lU w vs (So.texts L) from h4);have H5:=hid h5;obtain ⟨ai,ci,rfl,_,_,_⟩:=h5.open;obtain ⟨ae,ce,rfl,_,_,_⟩:=h3.open;obtain ⟨G_,He,rfl,_,_,_,_⟩:=h4.open;rw [List.length_map] at h1;rw [So.iA] at h1;obtain ⟨m,hm⟩:=aA ((So.terms L).length);have WD:=hid (fun W=>P6 (m:Int) W (by have:=So.nK L;omega));have GU:=hid (show So.wid L=Bn.width m by rw [hm];rfl);rw [Int.toNat_natCast,←GU.out] at WD;have Fp:=hid (show (So.texts L).length=m by rw [hm];unfold So.texts;rw [List.length_map]);rw [List.length_map] at H4;rw [So.iA] at H5;obtain ⟨k,hk⟩:=aA L.length;rw [←hm,←hk] at h1;rw [←hm] at H4;rw [←hk] at H5;have HK:=hid hk;have PY:k≤100:=aj;have HP:=hid h1;clear h1 h2 h3 h4 h5 hm hk;go_enter func45,ntmps45;go_wp2;go_loopg [3,4] k (fun gk s3 s4 wr=>∃ i:Nat,s4=.int .i64 i∧i≤k∧k-i≤gk∧Hid (Below w.heap.size w wr)∧Hid (wr.ownsRow w.heap.size 3 1 s3 (3*i) ((((So.ids L).take i).flatMap So.iP).map jk)))
 case atStart=>exact ⟨0,rfl,Nat.zero_le _,Nat.le_refl _,hid (Below.refl _ _),hid (World.ownsRow_nil _ _ _ _)⟩
 case round=>
  obtain ⟨i,rfl,hik,hg,HB,HR⟩:=hrel;have vJ:=hid (HP.out.keep HB.out);have e1:=vJ.out.cell (i:=1) rfl;have e2:=vJ.out.cell (i:=2) rfl;have e3:=vJ.out.cell (i:=3) rfl;by_cases hlt:i<k
  · have hltz:(i:Int)<(k:Int):=aj;have cZ:i<(So.ids L).length:=(by rw [So.iA,←HK.out];exact hlt);obtain ⟨bl,off,rfl,hrow⟩:=H5.out.get cZ;have HST:=hid (PN cZ);have b0:=hrow i cZ 0 aj;have b1:=hrow i cZ 1 aj;have b2:=hrow i cZ 2 aj;have b3:=HP.out.cell (i:=3) rfl;obtain ⟨t,ht⟩:=aA ((So.ids L)[i]);rw [←ht] at b0 b1 b2 HST;obtain ⟨t1,t2,t3⟩:=t;simp only [Rg.at',Nat.add_zero] at b0 b1 b2;have c0:=aB HB.out b0;have c1:=aB HB.out b1;have c2:=aB HB.out b2;clear ht hrow cZ;obtain ⟨iS,hi0,bY,bZ,b_⟩:=info_parts Tryz.soinfo3;have iE:=HB.out.size;have aR:=hid (HB.out.drew.alloc iE (.cells ((So.iP (t1,t2,t3)).map jk).toArray 3));have nM:=hid (show (wr.drew.alloc (.cells ((So.iP (t1,t2,t3)).map jk).toArray 3)).ownsRow w.heap.size 3 1 u3 (3*i) ((((So.ids L).take i).flatMap So.iP).map jk) from World.ownsRow.alloc (show wr.drew.ownsRow w.heap.size 3 1 u3 (3*i) ((((So.ids L).take i).flatMap So.iP).map jk) from HR.out) _);(go_upto_region 5 with fail);go_region_held3 (fun w'=>w'.cell? ⟨p,3,none⟩=some (.slice (some ⟨bl,off,none⟩) k ci)∧w'.cell? ⟨bl,off+i*3,none⟩=some (.int .i64 t1)∧w'.cell? ⟨bl,off+i*3+1,none⟩=some (.int .i64 t2)∧w'.cell? ⟨bl,off+i*3+2,none⟩=some (.int .i64 t3))
     (first
       | exact ⟨aB aI.out b3,aB aI.out b0,aB aI.out b1,aB aI.out b2⟩
       | exact ⟨aB aR.out b3,aB aR.out b0,aB aR.out b1,aB aR.out b2⟩
       | go_keep)
     (first
       | (refine fJ (by rfl) (.tmp 18) (.tmp 43) 48 (by rfl) w.heap.size 3 iS _ 1 8 underlying48 hi0 bY bZ b_ rfl aH u3 (3*i) _ (by rfl) nM.out (some ⟨wr.heap.size,0,none⟩) 3 3 ((So.iP (t1,t2,t3)).map jk) (by rfl) (fun h=>by cases h) rfl (yt wr.drew ((So.iP (t1,t2,t3)).map jk) 3) (PV _) ?b1 ?b2 ?b3 ?_
          case b1=>(unfold maxLen;omega)
          case b2=>omega
          case b3=>exact aR.out.size
          intro v8 w8 g1 g2 g3
          have aI:=hid (aR.out.grown g2 aR.out.size (fun k hk=>(nM.out.lt k hk).1))
          have d9:=hid (show w8.ownsRow w.heap.size 3 1 v8 (3*(i+1)) ((((So.ids L).take (i+1)).flatMap So.iP).map jk) by rw [HST.out,List.map_append];exact g1)
          clear g1 g2 g3)
       | fail)
    go_wp2;go_roundg (k-(i+1))
    (case measure=>omega);case rel=>exact ⟨i+1,aN,aj,aj,aI,d9⟩
  · obtain rfl:i=k:=aj;have hltz:¬ (i:Int)<(i:Int):=aj;have hin:3*i=(So.jg L).length:=(by rw [So.vG,HK.out]);have GV:=hid (show wr.ownsRow w.heap.size 3 1 u3 (3*i) ((So.jg L).map jk) by have h:=HR.out;rw [show (So.ids L).take i=So.ids L from by rw [HK.out,←So.iA,List.take_length]] at h;exact h);obtain ⟨an,cn,hv4,q1,q2,q3,hrow⟩:=dN.own (f:=jk) (d:=(0:Int)) GV.out hin;rw [←hin] at hv4 hrow;subst hv4;have Cn:=hid (PK.out wr an (3*i) cn hrow (by rw [HK.out]));clear hin q1 q2 q3 hrow HR hg;go_upto_region 7 with (first
     | (go_at_call 55;refine (WD.out _).mono ?_;rintro e w2 ⟨rfl,rfl⟩)
     | (go_at_call 27;refine Cn.out.mono ?_;rintro e w1 ⟨b,rfl,hb2,hb,hblk⟩;have HB2:=hid hb2;have dK:=hid hb;have pY:=hid hblk;clear hb2 hb hblk))
    have yU:=hid (aG HB.out HB2.out);obtain ⟨z,hz⟩:=aA (Pm.size (3*i) (So.wid L));rw [←hz] at pY ⊢;have HZ:=hid hz;have acA:z≤338:=(by rw [hz,HK.out];exact So.size_le (by rw [←HK.out];exact PY));have hpk:(So.packed L).length=z:=(by rw [So.GD,←HK.out];exact hz.symm);have GX:=hid (show ak w1 b ((So.packed L).map aS) 5 by have h:=pY.out;rw [hz,HK.out,PX] at h;exact h);have hx:#[Value.int .u8 ((i:Int) / 256),Value.int .u8 (i:Int)].toList++(So.packed L).map aS=(So.jh L).map aS:=(by unfold So.jh;rw [List.map_append,←HK.out];congr 1;show [Value.int .u8 ((i:Int) / 256),Value.int .u8 (i:Int)]=[Value.int .u8 ((i / 256 % 256:Nat):Int),Value.int .u8 ((i % 256:Nat):Int)];rw [show ((i / 256 % 256:Nat):Int)=(i:Int) / 256 by omega,show ((i % 256:Nat):Int)=(i:Int) by omega]);have HX:=hid hx;have Qh:(So.jh L).length=2+z:=(by unfold So.jh;rw [List.length_append,hpk];rfl);have HL2:=hid Qh;have HPK:=hid hpk;have ku:=hid (vJ.out.keep HB2.out);clear hz e1 e2 e3 hx Qh hpk pY;have e2:=ku.out.cell (i:=2) rfl;have e3:=ku.out.cell (i:=3) rfl;obtain ⟨iS,hi0,bY,bZ,b_⟩:=info_parts Tryz.soinfo5;obtain ⟨n1,hn1⟩:=aA ((So.nY L).length);have uH:=hid hn1;have Qi:=hid (show ∀ W,Below w1.heap.size w1 W→Calls prog 29 #[.slice G_ m He] W fun e W'=>∃ a c,e=.returned (.slice a n1 c)∧Hid (W'.ownsRow W.heap.size 5 1 (.slice a n1 c) n1 ((So.nY L).map aS))∧Below W.heap.size W W' from fun W hB=>by refine (RB.out (.slice G_ m He) W (H4.out.keep (aG yU.out hB))).mono ?_;rintro e W' ⟨v,rfl,hb,ho⟩;have ho:W'.ownsRow W.heap.size 5 1 v n1 ((So.nY L).map aS):=(by rw [uH.out];exact ho);obtain ⟨a,c,rfl,_⟩:=Cv ho uH.out;exact ⟨a,c,rfl,hid ho,hb⟩);clear hn1;have Qj:Below w1.heap.size w1 w1.drew:=(Below.refl _ _).drew;have Qk:Below w1.heap.size w1 (w1.alloc (.cells #[.int .u8 ((i:Int) / 256),.int .u8 (i:Int)] 5)).drew:=((Below.refl _ _).alloc ay _).drew;have OB:=hid (show (w1.alloc (.cells #[.int .u8 ((i:Int) / 256),.int .u8 (i:Int)] 5)).drew.ownsRow w1.heap.size 5 1 (.slice (some ⟨w1.heap.size,0,none⟩) 2 2) 2 #[Value.int .u8 ((i:Int) / 256),Value.int .u8 (i:Int)].toList from yO w1 5 #[.int .u8 ((i:Int) / 256),.int .u8 (i:Int)] 2 rfl (by unfold maxLen;omega) rfl);have Ql:=hid (fun W (hB:Below w1.heap.size w1 W) ad (had:(some ⟨b,0,none⟩:Option Addr)=some ad) j u (hu:((So.packed L).map aS)[j]?=some u)=>(by cases had;rw [ji rfl,Nat.zero_add];exact (GX.out.keep hB).cell hu:W.cell? (ad.add j)=some u));have ONE:=hid (show ∀ u∈(So.packed L).map aS,u.oneCell'=true from fun u hu=>by obtain ⟨x,_,rfl⟩:=List.mem_map.1 hu;rfl);have Qm:=hid (show ((So.packed L).map aS).length=z*1 by rw [List.length_map,HPK.out,Nat.mul_one]);have hw1:IntKind.u8.wrap ((i:Int) / 256)=(i:Int) / 256:=IntWalk.u8_in _ ⟨aj,aj⟩;have hw2:IntKind.u8.wrap (i:Int)=(i:Int):=IntWalk.u8_in _ ⟨aj,aj⟩;have hq1:2+z≤maxLen:=(by unfold maxLen;omega);have hq2:(2+z)*1≤140737488355328:=aj;clear RB PK Cn WD;go_region_held3 (fun w'=>w'.cell? ⟨p,2,none⟩=some (.slice G_ m He)∧w'.cell? ⟨p,3,none⟩=some (.slice ai i ci))
     (first
       | exact ⟨aB hbD e2,aB hbD e3⟩
       | exact ⟨aB hbC e2,aB hbC e3⟩
       | go_keep)
     (first
       | (go_at_call 29;with_reducible refine (Qi.out _ Qj).mono ?_;rintro e w2 ⟨a2,c2,rfl,fQ,hb2⟩;have oC:=Qg fQ.out uH.out;have hbC:=aG Qj hb2;have SA:=hid (show w2.heap.size≤(w2.alloc (.cells #[.int .u8 ((i:Int) / 256),.int .u8 (i:Int)] 5)).heap.size by simp);have OA:=hid (yO w2 5 #[.int .u8 ((i:Int) / 256),.int .u8 (i:Int)] 2 rfl (by unfold maxLen;omega) rfl))
       | (go_at_call 29;with_reducible refine (Qi.out _ Qk).mono ?_;rintro e w2 ⟨a2,c2,rfl,fQ,hb2⟩;have hbC:=aG Qk hb2;have Qn:=hid (Cm OB.out hb2))
       | (refine fJ (by rfl) (.tmp 76) (.tmp 77) 32 (by rfl) w2.heap.size 5 iS _ 1 1 underlying32 hi0 bY bZ b_ rfl aH (.slice (some ⟨w2.heap.size,0,none⟩) 2 2) 2 _ (by rfl) OA.out (some ⟨b,0,none⟩) z z ((So.packed L).map aS) (by rfl) (fun h=>by cases h) Qm.out (Ql.out _ (hbC.alloc hbC.size _)) ONE.out hq1 hq2 SA.out ?_
          intro v3 w3 g1 g2 g3
          have hb3:=((Below.refl w2.heap.size w2).alloc ay _).grown g2 aC (fun k hk=>(OA.out.lt k hk).1)
          have hbD:=aG hbC hb3
          have mR:=hid (oC.out.keep hb3)
          obtain ⟨a3,c3,rfl,pI⟩:=Cv (Qf g1 HX.out) HL2.out.symm
          have Cq:=hid (GY (ak.new w3 [.int .i64 1,.slice a2 n1 c2,.int .i64 2,.slice a3 (2+z) c3] 56) (mR.out.keep ((Below.refl _ _).alloc ay _)) (pI.out.keep ((Below.refl _ _).alloc ay _)))
          clear g1 g2 g3)
       | (refine fJ (by rfl) (.tmp 76) (.tmp 77) 32 (by rfl) w1.heap.size 5 iS _ 1 1 underlying32 hi0 bY bZ b_ rfl aH (.slice (some ⟨w1.heap.size,0,none⟩) 2 2) 2 _ (by rfl) Qn.out (some ⟨b,0,none⟩) z z ((So.packed L).map aS) (by rfl) (fun h=>by cases h) Qm.out (Ql.out _ hbC) ONE.out hq1 hq2 hbC.size ?_
          intro v3 w3 g1 g2 g3
          have hbD:=hbC.grown g2 hbC.size (fun k hk=>(Qn.out.lt k hk).1)
          have mR:=Qg (Apart.kept (Or.inr (Or.inr (acW fQ.out))) fQ.out g2) uH.out
          obtain ⟨a3,c3,rfl,pI⟩:=Cv (Qf g1 HX.out) HL2.out.symm
          have Cq:=hid (GY (ak.new w3 [.int .i64 1,.slice a2 n1 c2,.int .i64 2,.slice a3 (2+z) c3] 56) (mR.out.keep ((Below.refl _ _).alloc ay _)) (pI.out.keep ((Below.refl _ _).alloc ay _)))
          clear g1 g2 g3)
       | (go_at_call 28;with_reducible refine (BP.out _ _ _ Cq.out).mono ?_;rintro e w4 ⟨v4,rfl,hb4,oK⟩;have Hf:=hbD;have hbD:=aG (Hf.alloc Hf.size _) hb4;have mZ:=hid oK)
       | fail)
    all_goals
     go_wp2
     go_ret
     have d_:=aG yU.out hbD
     have hsz:=(aG yU.out Hf).size
     have ho:=mZ.out
     rw [show Bx.total (So.secs L)=(So.file L).length from by unfold So.file;rw [Bx.Ck]] at ho
     exact ⟨_,rfl,yS ho (by simp;omega),d_⟩
theorem acY (a:T3) (ha:So.dJ a) (s:List UInt8) (w:World) :
  Calls prog 74 #[pQ a,str s] w fun e w'=>e=.returned (.int .i64 (Tm.cmp (So.sh a) s))∧Below w.heap.size w w':=by
 obtain ⟨h1,h2,h3,h4⟩:=pR ⟨a,ha⟩;have TS:=hid (fun W=>wh (a.1:Nat) a.2.1 a.2.2 W h1 h2);have e:Tm.show (a.1:Nat) a.2.1 a.2.2=So.sh a:=xE ⟨a,ha⟩;rw [e] at TS;have SC:=hid (fun u W=>Jc u s W);obtain ⟨k,t,x⟩:=a;clear h1 h2 h3 h4 e ha;have HB0:=hid (show Below w.heap.size w (w.alloc (.cells #[.int .i64 (k:Nat),str t,str x] 61)) from (Below.refl _ _).alloc ay _);go_enter func74,ntmps74;go_wp2_with (first
  | (go_at_call 57;refine (TS.out _).mono ?_;rintro e w1 ⟨rfl,hB⟩;have HB1:=hid (aG HB0.out hB);clear hB)
  | (go_at_call 75;refine (SC.out _ _).mono ?_;rintro e w2 ⟨rfl,rfl⟩))
 go_ret;exact ⟨rfl,HB1.out⟩
def rD (E:List T3) (s:List UInt8):Nat:=(E.takeWhile fun a=>decide (Tm.cmp (So.sh a) s<0)).length
def vL (E:List T3) (s:List UInt8):Bool:=decide ((E[rD E s]?).map So.sh=some s)
theorem Hg {E:List T3} {s:List UInt8} {i:Nat} (hi:i≤E.length) (h1:∀ j (h:j<E.length),j<i→Tm.cmp (So.sh E[j]) s<0) (h2:∀ j (h:j<E.length),i≤j→¬ Tm.cmp (So.sh E[j]) s<0):rD E s=i:=by
 unfold rD;have e:E.takeWhile (fun a=>decide (Tm.cmp (So.sh a) s<0))=E.take i:=by
  conv=>lhs;rw [←List.take_append_drop i E]
  rw [List.takeWhile_append_of_pos (fun a ha=>?_)]
  · cases hd:E.drop i with
    | nil=>simp
    | cons a r=>
     have hl:i<E.length:=by rcases Nat.lt_or_ge i E.length with h | h;{exact h};{rw [List.drop_eq_nil_of_le h] at hd;cases hd}
     have ha:E[i]=a:=(by have:=List.drop_eq_getElem_cons hl;rw [hd] at this;exact (List.cons.inj this).1.symm);have hn:=h2 i hl ay;rw [ha] at hn;simp [hn]
  {obtain ⟨j,hj,rfl⟩:=List.getElem_of_mem ha;rw [List.length_take] at hj;rw [List.getElem_take];exact decide_eq_true (h1 j aj aj)}
 rw [e,List.length_take];omega
theorem Hl {E:List T3} {s:List UInt8} {i:Nat} {f:Bool} (hI:rD E s=i) (hf:f=true↔∃ h:i<E.length,So.sh E[i]=s):vL E s=f:=by unfold vL;rw [hI,Bool.eq_iff_iff,decide_eq_true_eq,hf];constructor;{intro h;rcases Nat.lt_or_ge i E.length with h3 | h3;{rw [List.getElem?_eq_getElem h3] at h;exact ⟨h3,Option.some.inj h⟩};{rw [List.getElem?_eq_none h3] at h;cases h}};{rintro ⟨h,h2⟩;rw [List.getElem?_eq_getElem h,←h2];rfl}
theorem acZ (E:List T3) (hE:∀ a∈E,So.dJ a) (hs:So.fG So.cT E) (hn:E.length≤10000) (s:List UInt8) (w:World) (v:Value) (hv:bP w v E) :
  Calls prog 73 #[v,str s,.func (.func 74) #[] #[]] w fun e w'=>e=.returned (.tuple #[.int .i64 (rD E s:Nat),.bool (vL E s)])∧Below w.heap.size w w':=by
 have ID:=hid (fun a ha W=>acY a ha s W);obtain ⟨va,vc,rfl,hc1,hc2,hc3⟩:=hv.open;have HV:=hid hv;have HE:=hid hE;have HSL:=hid (show ∀ i j (hi:i<E.length) (hj:j<E.length),i≤j→Tm.cmp (So.sh E[i]) (So.sh E[j])≤0 from fun i j hi hj hij=>by
  rcases Nat.lt_or_ge i j with h | h;{exact Int.le_of_lt ((So.A_ So.gq hs hi hj).2 h)}
  · have:i=j:=aj;subst this;have:=So.gq.self E[i];exact Int.le_of_eq this)
 obtain ⟨n,hn0⟩:=aA E.length;have HN:=hid hn0;rw [←hn0] at HV hn hc1 ⊢;clear hv hE hs hc1 hc2 hc3 hn0;go_enter func73,ntmps73;go_wp2;go_loopg [9,10] n (fun gk s9 s10 wr=>∃ lo hi:Nat,s9=.int .i64 lo∧s10=.int .i64 hi∧lo≤hi∧hi≤n∧hi-lo≤gk∧Hid (Below w.heap.size w wr)∧Hid ((∀ j (h:j<E.length),j<lo→Tm.cmp (So.sh E[j]) s<0)∧(∀ j (h:j<E.length),hi≤j→0≤Tm.cmp (So.sh E[j]) s)))
 case atStart=>exact ⟨0,n,rfl,rfl,Nat.zero_le _,Nat.le_refl _,aj,Below.refl _ _,fun j h h1=>aj,fun j h h1=>by have:=HN.out;omega⟩
 case round=>
  obtain ⟨lo,hi,rfl,rfl,hlh,hin,hg,HB,HI⟩:=hrel;by_cases hlt:lo<hi
  · have rE:(lo+hi) / 2<E.length:=(by rw [←HN.out];omega);obtain ⟨m,hm⟩:=aA ((lo+hi) / 2);have hmz:((lo:Int)+(hi:Int)) / 2=((m:Nat):Int):=aj;rw [←hm] at rE;obtain ⟨b,off,rfl,hrow⟩:=(HV.out.keep HB.out).get rE;have c0:=hrow m rE 0 aj;have c1:=hrow m rE 1 aj;have c2:=hrow m rE 2 aj;obtain ⟨t,ht⟩:=aA (E[m]);rw [←ht] at c0 c1 c2;have hc:=ID.out t (by rw [ht];exact HE.out _ (List.getElem_mem _)) wr;have HM:=hid (show m=(lo+hi) / 2 from hm);have hm1:lo≤m:=aj;have hm2:m<hi:=aj;have jL:=hid (show Tm.cmp (So.sh t) s<0→∀ j (h:j<E.length),j<m+1→Tm.cmp (So.sh E[j]) s<0 from fun h0 j h hj=>by
     have h1:=HSL.out j m h rE aj;rw [←ht] at h1;rcases Int.lt_or_eq_of_le (Tm.vT h1 (Int.le_of_lt h0)) with h2 | h2;{exact h2}
     · exfalso;have e:=Tm.mG.1 h2;rw [e] at h1;have:=Tm.jB s (So.sh t);omega)
    have Cw:=hid (show ¬ Tm.cmp (So.sh t) s<0→∀ j (h:j<E.length),m≤j→0≤Tm.cmp (So.sh E[j]) s from fun h0 j h hj=>Int.not_lt.1 fun h2=>by have h1:=HSL.out m j rE h hj;rw [←ht] at h1;have h3:=Tm.vT h1 (Int.le_of_lt h2);have h4:Tm.cmp (So.sh t) s=0:=aj;have e:=Tm.mG.1 h4;rw [e] at h1;have:=Tm.jB s (So.sh E[j]);omega);obtain ⟨z,hz⟩:=aA (Tm.cmp (So.sh t) s);rw [←hz] at hc jL Cw;obtain ⟨k,tt,xx⟩:=t;simp only [bT,List.getElem?_cons_zero,List.getElem?_cons_succ,Nat.add_zero] at c0 c1 c2;clear hm ht hz hrow rE;by_cases hz0:z<0
    · have H1:=hid (jL.out hz0);clear jL Cw;(go_wp2_with (go_at_call 74;refine hc.mono ?_;rintro e w' ⟨rfl,hb'⟩;have HB2:=hid (aG HB.out hb');clear hb'));go_roundg (hi-(m+1))
      (case measure=>omega);case rel=>exact ⟨m+1,hi,aN,rfl,aj,aj,Nat.le_refl _,HB2,H1.out,HI.out.2⟩
    · have H1:=hid (Cw.out hz0);clear jL Cw;(go_wp2_with (go_at_call 74;refine hc.mono ?_;rintro e w' ⟨rfl,hb'⟩;have HB2:=hid (aG HB.out hb');clear hb'));go_roundg (m-lo)
      (case measure=>omega);case rel=>exact ⟨lo,m,rfl,aN,aj,aj,Nat.le_refl _,HB2,HI.out.1,H1.out⟩
  · obtain rfl:lo=hi:=aj;by_cases hl:lo<n
    · have vM:lo<E.length:=(by rw [←HN.out];exact hl);have hlz:(lo:Int)<(n:Int):=aj;obtain ⟨b,off,rfl,hrow⟩:=(HV.out.keep HB.out).get vM;have c0:=hrow lo vM 0 aj;have c1:=hrow lo vM 1 aj;have c2:=hrow lo vM 2 aj;obtain ⟨t,ht⟩:=aA (E[lo]);rw [←ht] at c0 c1 c2;have hc:=ID.out t (by rw [ht];exact HE.out _ (List.getElem_mem _)) wr;obtain ⟨z,hz⟩:=aA (Tm.cmp (So.sh t) s);rw [←hz] at hc;have HF:=hid (show (z==0)=true↔∃ h:lo<E.length,So.sh E[lo]=s by rw [beq_iff_eq,hz,Tm.mG,ht];exact ⟨fun h=>⟨vM,h⟩,fun ⟨_,h⟩=>h⟩);obtain ⟨k,tt,xx⟩:=t;simp only [bT,List.getElem?_cons_zero,List.getElem?_cons_succ,Nat.add_zero] at c0 c1 c2;clear ht hz hrow vM;obtain ⟨f,hf⟩:=aA ((z==0));rw [←hf] at HF;have HFZ:=hid hf;clear hf;(go_wp2_with (go_at_call 74;refine hc.mono ?_;rintro e w' ⟨rfl,hb'⟩;have HB2:=hid (aG HB.out hb');clear hb'));go_ret2
      have eI:=Hg (by rw [←HN.out];exact hin) HI.out.1 (fun j h hj=>Int.not_lt.2 (HI.out.2 j h hj));have eF:=Hl eI HF.out;exact ⟨by rw [eI,eF,HFZ.out];rfl,HB2.out⟩
    · have hlz:¬ (lo:Int)<(n:Int):=aj;go_wp2;go_ret2
      have eI:=Hg (by rw [←HN.out];exact hin) HI.out.1 (fun j h hj=>Int.not_lt.2 (HI.out.2 j h hj));have eF:=Hl (f:=false) eI (by
       constructor;{intro h;cases h}
       · rintro ⟨h,_⟩;rw [←HN.out] at h;exact absurd h hl)
      exact ⟨by rw [eI,eF];rfl,HB.out⟩
theorem Ho (a:T3) (k:Int) (t x:List UInt8) (w:World):(binOp .neq 61 (.agg #[.int .i64 (a.1:Nat),str a.2.1,str a.2.2]) (.agg #[.int .i64 k,str t,str x])).run prog w=.ok (.bool (!decide ((a.1:Int)=k∧a.2.1=t∧a.2.2=x))) w:=by
 obtain ⟨m,u,y⟩:=a;by_cases h1:(m:Int)=k <;> by_cases h2:u=t <;> by_cases h3:y=x;all_goals
  simp [go_sem,h1,h2,h3] <;> omega
def tQ (E:List T3) (k:Int) (t x:List UInt8):Nat:=if 0≤k then So.num E (k.toNat,t,x) else 0
theorem ac0 (E:List T3) (n:Nat) (t x:List UInt8):tQ E (n:Int) t x=So.num E (n,t,x):=by unfold tQ;rw [if_pos aj,Int.toNat_natCast]
theorem Qo {E:List T3} (hE:∀ a∈E,So.dJ a) (hs:So.fG So.cT E) (k:Int) (t x:List UInt8) {j:Nat} (hj:j<E.length) (he:(E[j].1:Int)=k∧E[j].2.1=t∧E[j].2.2=x) :
  rD E (Tm.show k t x)=j∧vL E (Tm.show k t x)=true∧tQ E k t x=j+1:=by
 obtain ⟨e1,e2,e3⟩:=he;have hv:=xE ⟨E[j],hE _ (List.getElem_mem hj)⟩;have hsh:Tm.show k t x=So.sh E[j]:=by rw [←hv,←e1,←e2,←e3]
 have eI:rD E (Tm.show k t x)=j:=by refine Hg aj (fun i hi hij=>?_) (fun i hi hij=>?_);{rw [hsh];exact (So.A_ So.gq hs hi hj).2 hij};{rw [hsh];intro h;have:=(So.A_ So.gq hs hi hj).1 h;omega}
 refine ⟨eI,Hl eI ⟨fun _=>⟨hj,hsh.symm⟩,fun _=>rfl⟩,?_⟩;rw [←e1,ac0,←e2,←e3];exact So.EA (So.Ez So.gq hs) hj
theorem ac1 {E:List T3} {k:Int} {t x:List UInt8} (h:∀ j (hj:j<E.length),¬ ((E[j].1:Int)=k∧E[j].2.1=t∧E[j].2.2=x)):tQ E k t x=0:=by unfold tQ;split;{refine So.xA fun hm=>?_;obtain ⟨j,hj,e⟩:=List.getElem_of_mem hm;exact h j hj (by rw [e];exact ⟨by show ((k.toNat:Nat):Int)=k;omega,rfl,rfl⟩)};{rfl}
theorem ac2 (p:Nat) (L:List TR) (hl:∀ t∈L,Tm.bG t=true) (hn:L.length≤1000) (k:Int) (t x:List UInt8) (w:World) (h:iM w p L) (ht:t.length≤1000000000) (hx:x.length≤1000000000) :
  Calls prog 32 #[.pointer (some ⟨p,0,none⟩),bM k t x] w fun e w'=>e=.returned (.int .i64 (tQ (So.terms L) k t x:Nat))∧Below w.heap.size w w':=by
 obtain ⟨vt,ve,r,h1,h2,h3,h4⟩:=h;have HE:=hid (So.uP hl);have HS:=hid (So.uO hl);have hlen:=So.nK L;obtain ⟨E,hE⟩:=aA (So.terms L);rw [←hE] at h3 HE HS hlen ⊢;clear hE;obtain ⟨a,cap,rfl,hc1,hc2,hc3⟩:=h3.open;have TS:=hid (fun W=>wh k t x W ht hx);have BS:=hid (fun (s:List UInt8) (W:World) (hv:bP W (.slice a E.length cap) E)=>acZ E HE.out HS.out aj s W _ hv);have HP:=hid h1;have HT:=hid h3;obtain ⟨s,hs⟩:=aA (Tm.show k t x);have Fh:=hid hs;rw [←hs] at TS;obtain ⟨n,hn0⟩:=aA E.length;rw [←hn0] at BS HT HP;have HN:=hid hn0;clear h1 h2 h3 h4 hc1 hc2 hc3 hs hn0;go_enter func32,ntmps32;go_upto_region 3 with fail
 obtain ⟨w2,hw2,k0,k1,k2,HB⟩:=Dh w (.int .i64 k) (str t) (str x) 61;rw [←hw2];have lD:=hid (show ak w2 p [vt,.slice a n cap,.pointer (some ⟨r,0,none⟩)] 110 by rw [hw2];exact HP.out.alloc _);have HT2:=hid (show bP w2 (.slice a n cap) E from HT.out.keep HB.out);clear hw2;have p1:=fun q:Later w2.heap.size w2=>q.keep (lD.out.cell (i:=1) rfl);refine gM w2.heap.size aD aD ?_;repeat (go_big_quiet_step (first
  | (go_at_call 57;with_reducible exact Later.call ay (TS.out _))
  | (go_at_call 73;with_reducible exact Later.call ay (BS.out s _ (HT2.out.keep (Later.low _))))))
 refine wpQuiet_nil ?_;rintro _ ⟨q,rfl⟩;have HQ:=hid (aG HB.out q.low);have Hq:=hid (HT2.out.keep q.low);have P1:=hid (p1 q);have K0:=hid (k0 q);have K1:=hid (k1 q);have K2:=hid (k2 q);generalize q.it=w5 at HQ Hq P1 K0 K1 K2 ⊢;clear k0 k1 k2 p1;by_cases hf:∃ j,∃ hj:j<E.length,(E[j].1:Int)=k∧E[j].2.1=t∧E[j].2.2=x
 · obtain ⟨j,hj,he⟩:=hf;obtain ⟨eI,eF,eO⟩:=Qo HE.out HS.out k t x hj he;rw [←Fh.out] at eI eF;rw [eI,eF];have HO:=hid eO;obtain ⟨b,off,rfl,hrow⟩:=Hq.out.get hj;have c0:=hrow j hj 0 aj;have c1:=hrow j hj 1 aj;have c2:=hrow j hj 2 aj;obtain ⟨u,hu⟩:=aA (E[j]);rw [←hu] at c0 c1 c2 he;have NE:=Ho u k t x;rw [decide_eq_true he] at NE;have hjn:j<n:=(by rw [HN.out];exact hj);have hjz:(j:Int)<(n:Int):=aj;have Ng:(j:Int)<1000000:=aj;obtain ⟨m,u1,u2⟩:=u;simp only [bT,List.getElem?_cons_zero,List.getElem?_cons_succ,Nat.add_zero] at c0 c1 c2;have p1:=P1.out;have k0:=K0.out;have k1:=K1.out;have k2:=K2.out;clear hrow hu he eI eF eO hj;go_wp2;go_region
   go_wp2;go_ret;exact ⟨by rw [HO.out];rfl,HQ.out.drew⟩
 · have HO:=hid (show tQ E k t x=0 from ac1 fun j hj he=>hf ⟨j,hj,he⟩);cases hF:vL E s with
   | false=>
    clear hf hF;have p1:=P1.out;have k0:=K0.out;have k1:=K1.out;have k2:=K2.out;go_wp2;go_region
    go_wp2;go_ret;exact ⟨by rw [HO.out];rfl,HQ.out.drew⟩
   | true=>
    have hF2:=hF;unfold vL at hF2;rw [decide_eq_true_eq] at hF2;obtain ⟨j,hj0⟩:=aA (rD E s);rw [←hj0] at hF2 ⊢;have hj:j<E.length:=by rcases Nat.lt_or_ge j E.length with h | h;{exact h};{rw [List.getElem?_eq_none h] at hF2;cases hF2}
    have hne:¬ ((E[j].1:Int)=k∧E[j].2.1=t∧E[j].2.2=x):=fun he=>hf ⟨j,hj,he⟩;obtain ⟨b,off,rfl,hrow⟩:=Hq.out.get hj;have c0:=hrow j hj 0 aj;have c1:=hrow j hj 1 aj;have c2:=hrow j hj 2 aj;obtain ⟨u,hu⟩:=aA (E[j]);rw [←hu] at c0 c1 c2 hne;have NE:=Ho u k t x;rw [decide_eq_false hne] at NE;have hjn:j<n:=(by rw [HN.out];exact hj);have hjz:(j:Int)<(n:Int):=aj;obtain ⟨m,u1,u2⟩:=u;simp only [bT,List.getElem?_cons_zero,List.getElem?_cons_succ,Nat.add_zero] at c0 c1 c2;have p1:=P1.out;have k0:=K0.out;have k1:=K1.out;have k2:=K2.out;clear hrow hu hne hj hj0 hF hF2 hf;go_wp2;go_region
    go_wp2;go_ret;exact ⟨by rw [HO.out];rfl,HQ.out.drew⟩
end Go.Proofs.YtjaebndajhppgaaGreatDoor
