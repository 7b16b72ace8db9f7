import Derived.Test.YtgfinhehgfbdgaaGreatDoorRa05
import Derived.WalkSpells
namespace Go.Proofs.YtgfinhehgfbdgaaGreatDoor
theorem fine_cost {t:Tok} (h:fine t) (hs:t.own.size≤140737488351232):(putT t).length≤lenT t+10∧1≤lenT t:=by
 by_cases h0:t.own.size=0
 · obtain ⟨_,h1,h2⟩:=rep_cost h h0;omega
 · rw [putT_own h0,List.length_append,←size_data];have:=putL_le10 (n:=2 * t.own.size) (by omega);unfold lenT;omega
theorem cost_le {l:List Tok} (h:∀ t∈l,fine t∧t.own.size≤140737488351232):cost l≤sumT l+10 * l.length∧l.length≤sumT l:=by
 induction l with
 | nil=>exact ⟨Nat.zero_le _,Nat.le_refl _⟩
 | cons t r ih =>
   obtain ⟨i1,i2⟩:=ih (fun u hu=>h u (List.mem_cons_of_mem _ hu));obtain ⟨h1,h2⟩:=h t (List.mem_cons_self ..);obtain ⟨c1,c2⟩:=fine_cost h1 h2;rw [cost_cons,sumT,List.length_cons];omega
theorem right_few {l:List Tok} (h:(rightF l 0 0).1=0):l.length≤20000∧cost l≤220000∧sumT l≤20000:=by
 have h1:=textL_len (b:=[]) h rfl (by omega);rw [textL_sum,List.length_nil] at h1;obtain ⟨h2,h3⟩:=cost_le (right_fine h);omega
theorem sumT_app (a b:List Tok):sumT (a++b)=sumT a+sumT b:=by
 induction a with
 | nil=>rw [List.nil_append];exact (Nat.zero_add _).symm
 | cons u r ih=>rw [List.cons_append,sumT,sumT,ih];omega
theorem right_own {l:List Tok} (h:(rightF l 0 0).1=0):∀ t∈l,t.own.size≤20000:=fun t ht=>by
 obtain ⟨i,hi,e⟩:=List.mem_iff_getElem.1 ht;have h2:=right_few (rightF_take h (i+1));rw [List.take_succ_eq_append_getElem hi,e,sumT_app] at h2;have h3:sumT [t]=lenT t:=rfl;have:t.own.size≤lenT t:=by unfold lenT;omega
 omega
theorem cost_take {l:List Tok} (k:Nat):cost (l.take k)≤cost l:=by
 have h:=cost_app (l.take k) (l.drop k);rw [List.take_append_drop] at h;omega
theorem writeL_snoc (l:List Tok) (k:Nat) (t:Tok) (h:l[k]? = some t):writeL (l.take (k+1))=writeL (l.take k)++putT t:=by
 obtain ⟨hk,e⟩:=List.getElem?_eq_some_iff.1 h;rw [List.take_succ_eq_append_getElem hk,writeL_app,e,writeL_cons,writeL_nil,List.append_nil]
end Go.Proofs.YtgfinhehgfbdgaaGreatDoor
namespace Go.Proofs.YtgfinhehgfbdgaaGreatDoor
open Go.RowKit
theorem bitsN_128 {n:Nat} (h:¬ n<128) (h64:n<18446744073709551616):bitsN n=bitsN (n / 128)+7:=by
 unfold bitsN;have e:=bitsF_shift 57 7 n (by omega);rw [show (57:Nat)+7=64 from rfl] at e;have e2:bitsF 64 (n / 128)=bitsF 57 (n / 128):=bitsF_more 57 (n / 128) 7 (by omega);rw [e,e2,show (2:Nat) ^ 7=128 from rfl];omega
theorem bitsN_small:∀ n,n<128→bitsN n≤7:=by
 intro n h;have:bitsN n=bitsF 7 n:=bitsF_more 7 n 57 (by omega);rw [this];exact bitsF_le 7 n
theorem bitsN_pos {n:Nat} (h:0<n):0<bitsN n:=by
 unfold bitsN bitsF;rw [if_neg (by omega)];omega
theorem sevens_bits (n:Nat):n<18446744073709551616→(sevens n=max 1 ((bitsN n+6) / 7)):=by
 induction n using Nat.strongRecOn with
 | ind n ih =>
   intro h64;by_cases h:n<128
   · rw [sevens_small h];have:=bitsN_small n h;omega
   · rw [sevens_big h,bitsN_128 h h64,ih (n / 128) (by omega) (by omega)];have:=bitsN_pos (n:=n / 128) (by omega);omega
def loB (n i:Nat):Nat:=n / p128 i % 128
theorem putL_get (i : Nat) : ∀ n (h : i < (putL n).length), ((putL n)[i]'h).toNat = loB n i + (if i + 1 < (putL n).length then 128 else 0) := by
 induction i with
 | zero =>
   intro n h;unfold loB p128;by_cases h2:n<128
   · simp only [putL_small h2];simp;omega
   · simp only [putL_big h2]
     have:=putL_pos (n / 128);rw [if_pos (by simp;omega)];simp;omega
 | succ i ih =>
   intro n h;by_cases h2:n<128
   · rw [putL_small h2] at h;simp at h
   · have e : (putL n)[i + 1]'h = (putL (n / 128))[i]'(by rw [putL_big h2] at h; simpa using h) := by simp only [putL_big h2]; rfl
     rw [e,ih];unfold loB p128;rw [Nat.div_div_eq_div_mul,Nat.pow_succ,Nat.mul_comm 128]
     congr 2
     rw [putL_big h2];simp
def partL (n i:Nat):List UInt8:=(putL n).take i++List.replicate ((putL n).length-i) 0
theorem partL_len (n i:Nat) (h:i≤(putL n).length):(partL n i).length=(putL n).length:=by
 unfold partL;simp;omega
theorem partL_end (n:Nat):partL n (putL n).length=putL n:=by unfold partL;simp
theorem partL_set (n i:Nat) (h:i<(putL n).length):(partL n i).set i ((putL n)[i])=partL n (i+1):=by
 unfold partL;have e:(putL n).length-i=(putL n).length-(i+1)+1:=by omega
 rw [List.set_append_right _ _ (by simp;omega),e,List.replicate_succ];have e2:i-((putL n).take i).length=0:=by simp;omega
 rw [e2,List.set_cons_zero,List.take_succ_eq_append_getElem h,List.append_assoc]
 rfl
theorem made_rep (k:Nat):(madeCells (Value.int .u8 0).cells (k * 1)).toList=(List.replicate k (0:UInt8)).map byteV:=by
 apply List.ext_getElem
 · simp [madeCells]
 · intro i h1 h2;simp [madeCells,byteV,Value.cells,Nat.mod_one]
theorem p128_pos (j:Nat):1≤p128 j:=Nat.pos_of_ne_zero (by unfold p128;exact Nat.ne_of_gt (Nat.pow_pos (by decide)))
theorem part_store (N j:Nat) (h:j<(putL N).length) (b:Int) (hb:b=((loB N j+(if j+1<(putL N).length then 128 else 0):Nat):Int)) :
   ((partL N j).map byteV).set j (.int .u8 b)=(partL N (j+1)).map byteV:=by
 rw [←partL_set N j h,List.map_set]
 congr 1
 unfold byteV;rw [putL_get j N h,hb]
set_option maxRecDepth 100000 in
set_option maxHeartbeats 2000000 in
theorem rvary_any (N:Nat) (w:World) (h1:N≤18446744073709551615) :
   Calls Tryz.prog 39 #[.int .u64 (N:Int)] w fun e w'=>e=.returned (.string ⟨(putL N).toArray⟩)∧Below w.heap.size w w':=by
 have hlen:(putL N).length=max 1 ((bitsN N+6) / 7):=by rw [putL_sevens];exact sevens_bits N (by omega)
 have hl10:=putL_le10 (n:=N) (by omega);have hb:bitsN N≤64:=bitsF_le 64 N;obtain ⟨B,hB⟩:∃ B,bitsN N=B:=⟨_,rfl⟩;rw [hB] at hlen hb;have HB:=Lib.hid hB;obtain ⟨k,hk⟩:∃ k,(putL N).length=k:=⟨_,rfl⟩;rw [hk] at hlen hl10;have HK:=Lib.hid hk;clear hB hk;have hk1:1≤k:=by omega
 obtain ⟨i0,hi,hz0,hz1,hz2⟩:=info_parts info_u8;have hcase:(1<((B:Int)+6) / 7∧((B:Int)+6) / 7=k)∨(((B:Int)+6) / 7≤1∧k≤1):=by omega
 clear hlen;rcases hcase with ⟨c1,c2⟩ | ⟨c1,c2⟩
 all_goals
   go_enter Tryz.func39,Tryz.ntmps39
   go_wp2_with (first | (go_at_call 81;refine (len64_any (N:Int) _ (by omega) (by omega)).mono ?_;rintro r w' ⟨rfl,rfl⟩;rw [Int.toNat_natCast,HB.out]) | (at_make;refine wpList_make_full _ rfl _ _ 56 rfl w.heap.size 5 i0 (.int .u8 0) 1 Tryz.underlying56 hi hz0 hz1 .i64 .i64 _ _ k rfl rfl (by first | rfl | omega) (by first | rfl | omega) (by rw [hz2];omega) (by unfold maxLen;omega) (Nat.le_refl _) ?_;intro w1 hown hg1;rw [made_rep] at hown;have hbel:Below w.heap.size w w1:=(Below.refl _ _).grown hg1 (Nat.le_refl _) (fun _ h=>by cases h);have HOWN:=Lib.hid hown;have HBEL:=Lib.hid hbel;clear hg1 hown hbel))
   have HOWN:=‹Hid (World.ownsRow _ w.heap.size _ _ _ _ _)›;have HBEL:=‹Hid (Below w.heap.size w _)›
   go_loopw [15] (fun i wr=>∃ j:Nat,j≤k∧i=.int .i64 j∧wr.ownsRow w.heap.size 5 1 (.slice (some ⟨w.heap.size,0,none⟩) k k) k ((partL N j).map byteV)∧Below w.heap.size w wr) (fun i _=>k-(intOf i).toNat)
   case atStart=>exact ⟨0,Nat.zero_le _,rfl,by unfold partL;rw [HK.out];exact HOWN.out,HBEL.out⟩
   case round =>
     obtain ⟨j,hj,rfl,hownr,hbr⟩:=hrel;by_cases hlt:j<k
     · have HO:=Lib.hid hownr;have hjl:j<(partL N j).length:=by rw [partL_len N j (by rw [HK.out];omega),HK.out];exact hlt
       obtain ⟨v0,hv0⟩:∃ v0:Int,wr.cell? ⟨w.heap.size,j,none⟩=some (.int .u8 v0) :=
         ⟨((partL N j)[j].toNat:Int),by rw [hownr.cellAt j (by omega),List.getElem?_map,List.getElem?_eq_getElem hjl];rfl⟩
       have hf:=hownr.frozenAt j;have hp:=p128_pos j;obtain ⟨q,hq⟩:∃ q:Nat,N / p128 j=q:=⟨_,rfl⟩;have hqi:(N:Int) / ((p128 j:Nat):Int)=(q:Int):=by rw [←hq];rfl
       have hqb:q≤18446744073709551615:=by rw [←hq];exact Nat.le_trans (Nat.div_le_self _ _) h1
       have HQ:Hid (loB N j=q % 128):=by show loB N j=_;unfold loB;rw [hq]
       clear hownr hq hjl;go_wp2_with (go_at_call 82;refine (pow_any j _ (by omega)).mono ?_;rintro r w' ⟨rfl,rfl⟩)
       all_goals first
         | (have hlt2 : (j : Int) + 1 < (k : Int) := by first | assumption | omega
            have hst:=((HO.out.stored j (.int .u8 ((q:Int) % 128))).1.stored j (.int .u8 ((q:Int) % 128+128))).1;rw [List.set_set,part_store N j (by rw [HK.out];omega) _ (by rw [HK.out,HQ.out,if_pos (by omega)];omega)] at hst;go_roundw
            case rel=>exact ⟨j+1,by omega,by go_num,hst,(hbr.setCell (Nat.le_refl _) _).setCell (Nat.le_refl _) _⟩
            case measure=>simp [intOf];omega)
         | (have hlt2 : (k : Int) ≤ (j : Int) + 1 := by omega
            have hst:=(HO.out.stored j (.int .u8 ((q:Int) % 128))).1;rw [part_store N j (by rw [HK.out];omega) _ (by rw [HK.out,HQ.out,if_neg (by omega)];omega)] at hst;go_roundw
            case rel=>exact ⟨j+1,by omega,by go_num,hst,hbr.setCell (Nat.le_refl _) _⟩
            case measure=>simp [intOf];omega)
     · have hjk:j=k:=by omega
       have hfin:ownsB wr w.heap.size (.slice (some ⟨w.heap.size,0,none⟩) k k) (putL N):=by
         unfold ownsB;rw [HK.out];have:=partL_end N;rw [HK.out] at this;rw [hjk,this] at hownr;exact hownr
       have hcv:=run_string_ownsB hfin;have hjk':=Lib.hid hjk;clear hfin hownr hjk;go_wp2;go_ret;exact ⟨rfl,hbr⟩
end Go.Proofs.YtgfinhehgfbdgaaGreatDoor
namespace Go.Proofs.YtgfinhehgfbdgaaGreatDoor
open Go.RowKit
def TokensIs (w:World) (l:List Tok) (e:Ending) (w':World):Prop :=
 ∃ v,e=.returned v∧ownsK w' w.heap.size v l∧Below w.heap.size w w'
set_option maxRecDepth 100000 in
set_option maxHeartbeats 2000000 in
theorem tokens_any (s:ByteArray) (w:World) (hs:s.size≤400000) :
   Calls Tryz.prog 65 #[.string s] w (TokensIs w (toks s.data.toList)):=by
 have HS : Hid (s.size ≤ maxLen) := by have h : s.size ≤ maxLen := by unfold maxLen; omega
                                       exact h
 have hlen:s.data.toList.length=s.size:=(size_data s).symm;have HL:=Lib.hid hlen;clear hlen;go_enter Tryz.func65,Tryz.ntmps65
 go_wp2
 go_loopw [3,4,5] (fun v fr a wr=>∃ (f fr' a':Nat) (acc:List Tok),fr=.int .i64 fr'∧a=.int .i64 a'∧fr'≤a'∧a'≤s.size∧s.size≤a'+f∧acc.length≤2 * a'∧toks s.data.toList=acc++tks s.data.toList f fr' a'∧ownsK wr w.heap.size v acc∧Below w.heap.size w wr) (fun _ _ a _=>s.size-(intOf a).toNat)
 case atStart=>exact ⟨s.size,0,0,[],rfl,rfl,Nat.le_refl _,Nat.zero_le _,by omega,by simp,by unfold toks;rw [HL.out];rfl,ownsK_nil _ _,Below.refl _ _⟩
 case round =>
   obtain ⟨f,fr,a,acc,rfl,rfl,hfa,ha,hf,hac,heq,hown,hbel⟩:=hrel;have HEQ:=Lib.hid heq;have HOWN:=Lib.hid hown;have HBEL:=Lib.hid hbel;clear heq hown hbel;by_cases hlt:a<s.size
   · obtain ⟨f,rfl⟩:∃ f',f=f'+1:=⟨f-1,by omega⟩;have hl:a<s.data.toList.length:=by rw [HL.out];exact hlt
     rcases find_cases s.data.toList a with ⟨hz,_⟩ | ⟨b,n,hfn,_,hb1,hb2,hb3,hn1,hn2,hn3,_⟩
     · have HR : Hid (findV (find s.data.toList a) = .tuple #[.int .i64 0, .int .i64 0]) := by
         have h:findV (find s.data.toList a)=.tuple #[.int .i64 0,.int .i64 0]:=by rw [hz];rfl
         exact h
       have HN:Hid (toks s.data.toList=acc++tks s.data.toList f fr (a+1)):=by
         have h:toks s.data.toList=acc++tks s.data.toList f fr (a+1):=by rw [HEQ.out,tks_step hl (by rw [hz])]
         exact h
       clear hz hl HEQ;go_wp2_with fail
       refine (find_nat s a _ HS.out hlt).mono ?_;rintro e w1 ⟨rfl,q1,rfl⟩;rw [HR.out];go_wp2;go_roundw
       case rel=>exact ⟨f,fr,a+1,acc,rfl,by go_num,by omega,by omega,by omega,by omega,HN.out,HOWN.out.drewN _,below_drewN HBEL.out _⟩
       case measure=>simp [intOf];omega
     · rw [HL.out] at hn3;have HR:Hid (findV (find s.data.toList a)=.tuple #[.int .i64 b,.int .i64 n]):=by
         have h:findV (find s.data.toList a)=.tuple #[.int .i64 b,.int .i64 n]:=by rw [hfn];rfl
         exact h
       have hn0:((n:Int) == 0)=false:=by simp;omega
       have hxs:(s.extract fr a).size≤140737488351232:=by rw [ByteArray.size_extract];omega
       have HXS:=Lib.hid hxs;obtain ⟨L1,hL1⟩:∃ L1,acc++ownT (s.extract fr a).data.toList=L1:=⟨_,rfl⟩;have hol:(acc++ownT (s.extract fr a).data.toList).length≤2 * a+1:=by
         rw [List.length_append];have:(ownT (s.extract fr a).data.toList).length≤1:=by unfold ownT;split <;> simp
         omega
       rw [hL1] at hol;have HOL:=Lib.hid hol;have HN:Hid (toks s.data.toList=(L1++[repT b n])++tks s.data.toList f (a+n) (a+n)):=by
         have h:toks s.data.toList=(L1++[repT b n])++tks s.data.toList f (a+n) (a+n):=by
           rw [HEQ.out,tks_rep hl hfn (by omega),←hL1,ext_data];simp
         exact h
       have HL1:=Lib.hid hL1;clear hL1
       have HAC : Hid (acc.length ≤ 999999) := by have h : acc.length ≤ 999999 := by omega
                                                  exact h
       clear hfn hl HEQ hxs hol;have e1:(fr:Int)≤(a:Int):=by omega
       have e2:(a:Int)≤(s.size:Int):=by omega
       go_wp2_with fail
       refine (find_nat s a _ HS.out hlt).mono ?_;rintro e w1 ⟨rfl,q1,rfl⟩;rw [HR.out];go_wp2_with fail
       refine (own_any _ acc _ w.heap.size (wr.drewN q1) HXS.out HBEL.out.size (HOWN.out.drewN _) HAC.out).mono ?_;rintro r w1 ⟨v1,rfl,ho1,hb1⟩;rw [HL1.out] at ho1;have hb2:Below w.heap.size w w1:=(below_drewN HBEL.out q1).trans hb1;have HB2:=Lib.hid hb2;have HO1:=Lib.hid ho1;have hz1:=hb2.size;have HOL1:Hid (L1.length+1≤1000000):=by
         have h:L1.length+1≤1000000:=by have:=HOL.out;omega
         exact h
       clear hb1 hb2 ho1 HOWN HBEL;go_wp2_with (at_builtin;refine wpList_append_tok rfl _ _ rfl w.heap.size _ L1 rfl (HO1.out.alloc _) w1.heap.size 1 rfl (repT b n) ?c1 ?c2 ?c3 ?_)
       case c1=>exact tokBlk_new _ _ _ _
       case c2=>exact HOL1.out
       case c3=>simp;omega
       · intro g cap w2 ho2 hg2;have HB3:Hid (Below w.heap.size w w2):=(HB2.out.alloc hz1 _).grown hg2 (by simp;omega) (fun g hg=>(HO1.out.lt g hg).1);have HO2:=Lib.hid ho2;clear ho2 hg2;go_wp2;go_roundw
         case rel=>exact ⟨f,a+n,a+n,_,by go_num,by go_num,Nat.le_refl _,by omega,by omega,by rw [List.length_append];simp only [List.length_singleton];have:=HOL.out;omega,HN.out,HO2.out,HB3.out⟩
         case measure=>simp [intOf];omega
   · obtain rfl:a=s.size:=by omega
     have hxs:(s.extract fr s.size).size≤140737488351232:=by rw [ByteArray.size_extract];omega
     have HXS:=Lib.hid hxs;have HN:Hid (toks s.data.toList=acc++ownT (s.extract fr s.size).data.toList):=by
       have h:toks s.data.toList=acc++ownT (s.extract fr s.size).data.toList:=by
         rw [HEQ.out,tks_end (by rw [HL.out];omega),ext_data]
       exact h
     have HAC : Hid (acc.length ≤ 999999) := by have h : acc.length ≤ 999999 := by omega
                                                exact h
     clear hxs HEQ;go_wp2_with fail
     refine (own_any _ acc _ w.heap.size wr HXS.out HBEL.out.size HOWN.out HAC.out).mono ?_;rintro r w1 ⟨v1,rfl,ho1,hb1⟩;have HO1:=Lib.hid ho1;have HB1:Hid (Below w.heap.size w w1):=HBEL.out.trans hb1;clear ho1 hb1;go_wp2;go_ret;exact ⟨_,rfl,by rw [HN.out];exact HO1.out,HB1.out⟩
end Go.Proofs.YtgfinhehgfbdgaaGreatDoor
