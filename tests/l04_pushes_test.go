package tests

import (
	"fmt"
	"math"
	"strings"
	"testing"

	"loop.example/g01226/impl"
)

// pushCase has the numbers of At, Speed, Charge, Mass, field, magnet and tick,
// and what a calculation outside of this project makes of them: PullOf, TurnOf,
// KickOf, PushSpeed, RadiusOf, TurnsOf, CrossSpeed, OrbitCentre, and three
// places of OrbitOf.
type pushCase struct {
	arguments, results string
}

func pushCases() []pushCase {
	return []pushCase{
		{"bc8724b4,3f6286af,bcb0a779,c075da86,4255fe34,3dec295e,c00e5f6e,c18f1bf5,bca79884,bbf3ffc8", "43e7f81a;3f7f5c86,bd909057;4075ebc4,41f73169;411905a2,42667a74;3ecf3959;bc3837b4;445a98df,c2d978e6;3ec6c638,3f61f1ca;bdb3a26a,3ee960da,be865d32,bed9736c,bf127fa9,bfdfc78f"},
		{"42286835,bdf57ff0,be1cf602,c157686e,3eebfe18,40d6ccdd,bea67ff7,3a4317e4,be015efb,c0524137", "3d8ca0e9;3f7fe564,bce96ceb;3d163d3c,b8b00a49;beed4f80,c157451e;44c1ffb7;bb949f96;bbc1069b,c024bc41;44c73fc1,c18e4f8a;422e7f72,423052c9,4238a905,42b072cc,4246e2d6,43044800"},
		{"3c2e5120,40d15772,3dd1d320,403232d6,bf1c188e,3e987c83,bc472dbe,c1c790d3,bc69dca6,bc98e79d", "c00307a9;3f7ffffe,3a0efd0b;b9739090,bef409b9;3dce4b9a,3fea62a2;42beaf86;38b60efd;44da750d,bf5a0897;42be93f6,40424e9c;3c0f833e,40d03f75,3be22724,40cfb938,3ba5b2ce,40cfc4bc"},
		{"3f1a99a2,bceb99e9,c135ba56,bf1bddca,4153ba71,3e2a5311,bf21f198,3e7cde8b,3d09a897,3ccf0264", "429f1d81;3f7f6a95,bd8a3768;bf22c91c,3e7e2f10;c14a0729,3f32a7a4;408820ef;bc301dd2;40eb2091,419694cd;3ec09c80,4087035f;3e91d597,bc364560,bd8312e0,3d2a78b1,bee15c33,3e068dcd"},
		{"41adc94a,c20ad1a0,3ca858b8,bd417628,bbd617f4,41eae174,be55b419,3e7083d9,be76b020,bcb69a89", "b9695804;3f800000,35a06383;b50af179,351c6011;3ca856aa,bd4174e9;447033b9;344c3698;bf799812,bf5dc53a;c456d394,c3d1041c;41adc85a,c20ad08c,41adc76a,c20acf78,41adc67a,c20ace64"},
		{"3f0cec2f,40b905e5,3c385d61,bd538c43,3e49c556,3f53be73,3c4a5cb9,bbacbdcc,bf0bf493,c2292e82", "3e73f144;bf445dd7,bf243e87;bd7edeef,3cd99066;bd20a84c,3da0c76b;3ecfcda6;bec73d55;3c1dfc40,3cb9136c;3f727150,40bbc9b2;400d6756,401d8a14,bfa6875c,3fff3ab6,3f7bedd8,4029e660"},
		{"3e1bd3a4,3e925765,3f76a7c2,3cd54365,bc619e40,4079365b,3cb5122b,3f5a25d7,bb18e6db,bbb6da48", "bb67c362;3f800000,3345bf0e;346a2d5f,370d106d;3f76a7ca,3cd566c1;47e42945;31fbc746;c3b69eb7,411794de;454535de,c7e413d1;3e165237,3e924457,3e10d0ca,3e923146,3e0b4f5d,3e921e32"},
		{"c0416566,bed41014,3d1b4039,bbb62c8b,be7a9df9,3f835c8b,bfe76a56,3dc75262,b83a28b4,be6d27c5", "be743431;3f800000,3624824b;bd4c8089,3b302416;bd7dc0d7,b9411690;45623423;34d17595;c5090cf0,c71f1e19;c40410e8,c55fd5b7;c0407a53,bed40a7d,c03e145b,bed4a811,c03a337d,bed5e8cd"},
		{"3fc00000,40100000,3f000000,c0400000,3f800000,3f800000,3f333333,be99999a,40000000,3f800000", "3f800000;00000000,bf800000;3eb33333,be19999a;c0333334,bf800000;3fc2a5fe;be800000;be19999a,beb33333;00000000,40000000;bfa66668,3fa00000,c0066667,40633334,3eccccc8,40766667"},
		{"3fc00000,40100000,3f000000,c0400000,3f800000,3f800000,3f333333,be99999a,c0000000,3f800000", "3f800000;00000000,3f800000;3eb33333,be19999a;40600000,3f333334;3fc2a5fe;3e800000;3e19999a,3eb33333;40400000,40200000;40a00000,403ccccd,40999999,40d4cccc,3fcccccc,40d4cccc"},
		{"3fc00000,40100000,3f000000,c0400000,bf800000,3f800000,3f333333,be99999a,40000000,3f800000", "bf800000;00000000,3f800000;beb33333,3e19999a;40200000,3e99999a;3fc2a5fe;3e800000;be19999a,beb33333;40400000,40200000;40800000,40233333,404ccccd,409b3334,3eccccc8,40766668"},
		{"3fc00000,40100000,3f000000,c0400000,3f800000,3f800000,3f333333,be99999a,40000000,bf800000", "3f800000;00000000,3f800000;beb33333,3e19999a;40200000,3e99999a;3fc2a5fe;3e800000;be19999a,beb33333;00000000,40000000;bf800000,3ff9999a,be4ccccc,beb33338,40266667,3f266664"},
		{"3fc00000,40100000,3f000000,c0400000,c0400000,40000000,3f333333,be99999a,3f8ccccd,c0000000", "bfc00000;beecea84,bf62f1ba;3f866666,bee66667;c02e7121,be692222;3febeffd;bea73374;be8ba2e9,bf22e8ba;40545d17,402364d9;40de7121,402d2444,40901106,3bed8000,403a7090,40b8b59f"},
		{"3fc00000,40100000,3f000000,c0400000,3f800000,3f800000,3f333333,be99999a,40800000,3f800000", "3f800000;bf19999a,bf4ccccd;3eb33333,be19999a;c02b8520,3f87ae16;3f42a5fe;beb46fec;bd99999a,be333333;3f400000,40080000;bf970a40,4053d70b,3fa5e354,408f4bc8,3f43c9ee,3fba6b52"},
		{"3fc00000,40100000,3f000000,c0400000,3f800000,3f800000,3f333333,be99999a,bdcccccd,42200000", "3f800000;bf19999a,3f4ccccd;41600000,c0c00000;41480000,41300000;41f34f7d;3eb46fec;40400000,40e00000;41fc0000,40e80000;43fac000,43dd2000,4384bffe,44689000,43d85998,44482998"},
		{"3fc00000,40100000,3f000000,c0400000,40400000,3f800000,3f333333,be99999a,42c80000,41200000", "40400000;bf7ffff1,baaec339;41280000,c0900000;bf028eb0,403f0f98;3c261998;beffe430;bb449ba6,bbe56041;3fbeb852,400fe4b1;c06664b8,420069bf,3fbd6d40,40077970,c06cc948,41ffa6c3"},
		{"3fc00000,40100000,3f000000,c0400000,c0400000,40e00000,3f333333,be99999a,501502f9,501502f9", "bedb6db7;bf800000,1fdc608a;ceb2d05e,4e1944e4;00000000,00000000;30431193;3f000000;ae03f100,ae99ee7f;3fc00000,40100000;3fc00000,40100000,3fc00000,40100000,3fc00000,40100000"},
		{"3fc00000,40100000,3f000000,c0400000,3f800000,3f800000,3f333333,be99999a,5f0ac723,5f0ac723", "3f800000;bf800000,8159c7dd;5e4249fe,dda68891;00000000,00000000;20b3880e;bf000000;9f0dabc7,9fa54867;3fc00000,40100000;3fc00000,40100000,3fc00000,40100000,3fc00000,40100000"},
		{"3fc00000,40100000,3f000000,c0400000,3f800000,3f800000,3f333333,be99999a,ff61b1e6,40000000", "3f800000;bf800000,004897f4;3f333333,be99999a;bf000001,40400000;006e6472;3f000000;000ae398,00196862;3fc00000,40100000;3efffffc,41040000,3fc00000,40100000,3efffffc,41040000"},
		{"3fc00000,40100000,3f000000,c0400000,3f800000,3f800000,3f333333,be99999a,7f61b1e6,3f800000", "3f800000;bf800000,80912fe9;3eb33333,be19999a;bf000000,40400000;006e6472;bf000000;800ae398,80196862;3fc00000,40100000;3f800000,40a80000,3fc00000,40100000,3f800000,40a80000"},
		{"3fc00000,40100000,3f000000,c0400000,3f800000,3f800000,3f333333,be99999a,1e3ce508,7f61b1e6", "3f800000;bf800000,a1c4c3e9;7e9dfc87,fe076abe;00000000,00000000;6183e61e;bf000000;dfd02ab6,e072dc7e;e1821ab1,e02d78ec;3fc00000,40100000,3fc00000,40100000,3fc00000,40100000"},
		{"3fc00000,40100000,3f000000,c0400000,3f800000,3f800000,3f333333,be99999a,60ad78ec,60ad78ec", "3f800000;no;5ff2dc7d,df502ab5;no;1f0fa00b;no;9d62ac71,9e0439ec;3fc00000,40100000;no"},
		{"3fc00000,40100000,3f000000,c0400000,3f800000,3f800000,3f333333,be99999a,ff61b1e6,40800000", "3f800000;no;3fb33333,bf19999a;no;006e6472;no;000ae398,00196862;3fc00000,40100000;no"},
		{"3fc00000,40100000,3f000000,c0400000,3f800000,3f800000,3f333333,be99999a,7f61b1e6,c0200000", "3f800000;no;bf600000,3ec00000;no;006e6472;no;800ae398,80196862;3fc00000,40100000;no"},
		{"3fc00000,40100000,3f000000,c0400000,60ad78ec,219392ef,3f333333,be99999a,3f800000,3f800000", "7e967699;bf800000,8159c7dd;7dd2a609,fd348e52;00000000,00000000;012596ac;bf000000;be99999a,bf333333;3fc00000,40100000;3fc00000,40100000,3fc00000,40100000,3fc00000,40100000"},
		{"3fc00000,40100000,3f000000,c0400000,60ad78ec,1e3ce508,3f333333,be99999a,3f800000,3f800000", "no;no;no;no;no;no;be99999a,bf333333;no;no"},
		{"3fc00000,40100000,3f000000,c0400000,60ad78ec,1e3ce508,3f333333,be99999a,00000000,00000000", "no;no;no;no;no;no;no;no;no"},
		{"3fc00000,40100000,3f000000,c0400000,00000000,3f800000,3f333333,be99999a,40000000,3f800000", "00000000;3f800000,80000000;00000000,80000000;3f000000,c0400000;no;00000000;be19999a,beb33333;no;40000000,bf400000,40200000,c0700000,40400000,c0d80000"},
		{"3fc00000,40100000,3f000000,c0400000,80000000,3f800000,3f333333,be99999a,40000000,3f800000", "80000000;3f800000,00000000;80000000,00000000;3f000000,c0400000;no;00000000;be19999a,beb33333;no;40000000,bf400000,40200000,c0700000,40400000,c0d80000"},
		{"3fc00000,40100000,3f000000,c0400000,3f800000,3f800000,3f333333,be99999a,00000000,3f800000", "3f800000;3f800000,80000000;3eb33333,be19999a;3f99999a,c0533334;no;00000000;no;no;402ccccd,bf866668,40933334,c094ccce,40e66667,c108ccce"},
		{"3fc00000,40100000,3f000000,c0400000,3f800000,3f800000,3f333333,be99999a,80000000,3f800000", "3f800000;3f800000,00000000;3eb33333,be19999a;3f99999a,c0533334;no;00000000;no;no;402ccccd,bf866668,40933334,c094ccce,40e66667,c108ccce"},
		{"3fc00000,40100000,3f000000,c0400000,3f800000,3f800000,3f333333,be99999a,40000000,00000000", "3f800000;3f800000,80000000;00000000,80000000;3f000000,c0400000;3fc2a5fe;00000000;be19999a,beb33333;00000000,40000000;3fc00000,40100000,3fc00000,40100000,3fc00000,40100000"},
		{"3fc00000,40100000,3f000000,c0400000,3f800000,3f800000,3f333333,be99999a,40000000,80000000", "3f800000;3f800000,00000000;80000000,00000000;3f000000,c0400000;3fc2a5fe;00000000;be19999a,beb33333;00000000,40000000;3fc00000,40100000,3fc00000,40100000,3fc00000,40100000"},
		{"3fc00000,40100000,3f000000,c0400000,3f800000,3f800000,00000000,00000000,40000000,3f000000", "3f800000;3f19999a,bf4ccccd;00000000,00000000;c0066666,c00ccccd;3fc2a5fe;be172029;00000000,00000000;00000000,40000000;3ee66668,3f933333,bf87ae14,3faa3d70,bfe9374c,40295810"},
		{"3fc00000,40100000,3f000000,c0400000,3f800000,3f800000,80000000,00000000,40000000,3f000000", "3f800000;3f19999a,bf4ccccd;80000000,00000000;c0066666,c00ccccd;3fc2a5fe;be172029;00000000,00000000;00000000,40000000;3ee66668,3f933333,bf87ae14,3faa3d70,bfe9374c,40295810"},
		{"3fc00000,40100000,3f000000,c0400000,3f800000,3f800000,00000000,80000000,40000000,3f000000", "3f800000;3f19999a,bf4ccccd;00000000,80000000;c0066666,c00ccccd;3fc2a5fe;be172029;00000000,80000000;00000000,40000000;3ee66668,3f933333,bf87ae14,3faa3d70,bfe9374c,40295810"},
		{"3fc00000,40100000,80000000,80000000,3f800000,3f800000,80000000,80000000,40000000,3f000000", "3f800000;3f19999a,bf4ccccd;80000000,80000000;80000000,00000000;00000000;be172029;80000000,00000000;3fc00000,40100000;3fc00000,40100000,3fc00000,40100000,3fc00000,40100000"},
		{"00000000,00000000,00000000,00000000,00000000,3f800000,00000000,00000000,00000000,00000000", "00000000;3f800000,80000000;00000000,00000000;00000000,00000000;no;00000000;no;no;00000000,00000000,00000000,00000000,00000000,00000000"},
		{"80000000,80000000,80000000,00000000,80000000,40400000,80000000,80000000,80000000,3f800000", "80000000;3f800000,80000000;00000000,00000000;00000000,00000000;no;00000000;no;no;00000000,00000000,00000000,00000000,00000000,00000000"},
		{"80000000,00000000,00000000,80000000,3f800000,3f800000,00000000,80000000,80000000,bf800000", "3f800000;3f800000,80000000;80000000,00000000;00000000,00000000;no;00000000;no;no;80000000,00000000,80000000,00000000,80000000,00000000"},
		{"00000000,00000000,80000000,80000000,bf800000,3f800000,00000000,00000000,00000000,3f800000", "bf800000;3f800000,00000000;80000000,80000000;00000000,80000000;no;00000000;no;no;00000000,00000000,00000000,00000000,00000000,00000000"},
		{"00000000,00000000,00000000,00000000,3f800000,3f800000,00000000,00000000,40000000,3f800000", "3f800000;00000000,bf800000;00000000,00000000;00000000,00000000;00000000;be800000;00000000,00000000;00000000,00000000;00000000,00000000,00000000,00000000,00000000,00000000"},
		{"80000000,80000000,80000000,00000000,3f800000,3f800000,00000000,00000000,c0000000,3f800000", "3f800000;00000000,3f800000;00000000,00000000;00000000,00000000;00000000;3e800000;00000000,00000000;80000000,80000000;00000000,00000000,00000000,00000000,00000000,00000000"},
		{"80000000,00000000,00000000,80000000,3f800000,3f800000,00000000,00000000,40000000,3f800000", "3f800000;00000000,bf800000;00000000,00000000;00000000,00000000;00000000;be800000;00000000,00000000;80000000,00000000;00000000,00000000,00000000,00000000,00000000,00000000"},
		{"3fc00000,40100000,3f000000,c0400000,3f800000,3f800000,3f333333,be99999a,00000001,3f800000", "3f800000;3f800000,80000000;3eb33333,be19999a;3f99999a,c0533334;no;00000000;no;no;402ccccd,bf866668,40933334,c094ccce,40e66667,c108ccce"},
		{"3fc00000,40100000,3f000000,c0400000,3f800000,3f800000,3f333333,be99999a,3f800000,00000001", "3f800000;3f800000,80000000;00000000,80000000;3f000000,c0400000;4042a5fe;00000000;be99999a,bf333333;bfc00000,3fe00000;3fc00000,40100000,3fc00000,40100000,3fc00000,40100000"},
		{"3fc00000,40100000,3f000000,c0400000,3f800000,3f800000,3f333333,be99999a,3f800000,00000003", "3f800000;3f800000,80000004;00000001,80000001;3f000000,c0400000;4042a5fe;80000001;be99999a,bf333333;bfc00000,3fe00000;3fc00000,40100000,3fc00000,40100000,3fc00000,40100000"},
		{"3fc00000,40100000,3f000000,c0400000,00000001,7f61b1e6,3f333333,be99999a,3f800000,3f800000", "00000000;3f800000,80000000;00000000,80000000;3f000000,c0400000;no;00000000;be99999a,bf333333;no;40000000,bf400000,40200000,c0700000,40400000,c0d80000"},
		{"3fc00000,40100000,3f000000,c0400000,00000001,3f800000,3f333333,be99999a,3f800000,3f800000", "00000001;3f800000,80000000;00000000,80000000;3f000000,c0400000;no;00000000;be99999a,bf333333;no;40000000,bf400000,40200000,c0700000,40400000,c0d80000"},
		{"3fc00000,40100000,3f000000,c0400000,3f800000,7f61b1e6,3f333333,be99999a,3f800000,3f000000", "00244bfa;3f800000,801225fc;00065a18,8002b8e6;3f000000,c0400000;no;8002e36e;be99999a,bf333333;no;3fe00000,3f400000,40000000,bf400000,40100000,c0100000"},
		{"3fc00000,40100000,3f000000,c0400000,3f800000,3f800000,00000001,80000001,0da24260,3f800000", "3f800000;3f800000,8da24260;00000000,80000000;3f000000,c0400000;72198cef;8c4e984d;a6c9f2ca,a6c9f2ca;f2177617,f0c9f2ca;40000000,bf400000,40200000,c0700000,40400000,c0d80000"},
		{"00000001,00000001,00000001,00000001,3f800000,3f800000,00000001,000116c2,7e967699,3f000000", "3f800000;bf800000,81d9c7dd;00000000,000045b0;80000001,80000001;00000000;bf000000;00000000,80000000;00000001,00000001;00000001,00000001,00000001,00000001,00000001,00000001"},
		{"3fc00000,40100000,3f000000,c0400000,000116c2,000002ca,3f333333,be99999a,40000000,3e99999a", "42c7e4c0;bf7f6e5f,bd88744a;4127e91c,c08fec62;bf79a170,40100d28;3c79485b;befa910f;be19999a,beb33333;3fbe1438,400fd705;3f9a8e2f,403b3726,3fbb1056,4003b9fc,3f889f28,402c6465"},
		{"3fc00000,40100000,3f000000,c0400000,3f800000,3f800000,00000001,00000002,00000001,3f800000", "3f800000;3f800000,80000000;00000000,00000001;3f000000,c0400000;no;00000000;40000000,bf800000;no;40000000,bf400000,40200000,c0700000,40400000,c0d80000"},
		{"3fc00000,40100000,3f000000,c0400000,3f800000,3f800000,7f61b1e6,3f800000,3f000000,40000000", "3f800000;3f19999a,bf4ccccd;7f61b1e6,3f800000;no;40c2a5fe;be172029;no;c0900000,3fa00000;no"},
		{"3fc00000,40100000,7f61b1e6,ff61b1e6,3f800000,3f800000,7f61b1e6,7f61b1e6,3f000000,40000000", "3f800000;3f19999a,bf4ccccd;7f61b1e6,7f61b1e6;no;no;be172029;no;no;no"},
		{"3fc00000,40100000,7f61b1e6,7f61b1e6,3f800000,3f800000,00000000,00000000,3f000000,3a83126f", "3f800000;3f7ffffe,ba03126e;00000000,00000000;7f61cec8,7f619501;no;b8a6e2d4;00000000,00000000;no;7a673a26,7a66fefc,7ae748ee,7ae6f02e,7b2d81c7,7b2d2908"},
		{"7f7fc99e,ff7fc99e,3f800000,3f800000,3f800000,3f800000,3f800000,3f800000,3f000000,3a83126f", "3f800000;3f7ffffe,ba03126e;3a03126f,3a03126f;3f803127,3f80105f;403504f3;b8a6e2d4;40000000,c0000000;7f7fc99e,ff7fc99e;7f7fc99e,ff7fc99e,7f7fc99e,ff7fc99e,7f7fc99e,ff7fc99e"},
		{"7f61b1e6,ff7fc99e,7db48e52,3f800000,3f800000,3f800000,3f800000,3f800000,3f000000,41200000", "3f800000;bf39611a,bf308d3e;40a00000,40a00000;fd82bf56,fd790aed;7e348e52;bec1fcb3;40000000,c0000000;no;no"},
		{"3fc00000,40100000,3f000000,c0400000,7f61b1e6,3f800000,3f333333,be99999a,40400000,3dcccccd", "7f61b1e6;no;7cfcc73f,fc58aac9;no;00000000;no;bdcccccd,be6eeeef;no;no"},
		{"3fc00000,40100000,3f000000,c0400000,7f61b1e6,3f800000,0da24260,00000000,40400000,3dcccccd", "7f61b1e6;no;4b64e1c1,00000000;no;00000000;no;00000000,8cd85880;no;no"},
		{"3fc00000,40100000,3f000000,c0400000,7f61b1e6,3f800000,3f333333,be99999a,ff61b1e6,006ce3ee", "7f61b1e6;no;3f866666,bee66666;no;00000000;no;000ae398,00196862;no;no"},
		{"3fc00000,40100000,447a0000,44fa0000,7f61b1e6,3f800000,3a83126f,c0e00000,006ce3ee,006ce3ee", "7f61b1e6;3f800000,812355e4;3ac49ba5,c127ffff;447a0032,44f76000;443a56c9;8033fdc6;no;44270aac,c3a58aac;3fc00000,40100000,3fc00000,40100000,3fc00000,40100000"},
		{"3fc00000,40100000,3f000000,c0400000,3f800000,3f800000,40400000,c0800000,006ce3ee,3f800000", "3f800000;3f800000,806ce3ee;3fc00000,c0000000;40600000,c0e00000;7f64cee1;80115498;no;ff61b1e7,fe16769a;40a00000,c0980000,41380000,c17c0000,41a80000,c1f60000"},
		{"3fc00000,40100000,3f000000,c0400000,3f800000,3f800000,43960000,c0800000,000ae398,3f800000", "3f800000;3f800000,800ae398;43160000,c0000000;43964000,c0e00000;no;8001bba9;no;no;43970000,c0980000,4461a000,c17c0000,44e16000,c1f60000"},
		{"3fc00000,40100000,501502f9,00000000,40000000,3f800000,40400000,00000000,006ce3ee,3f800000", "40000000;3f800000,80d9c7dc;40400000,00000000;501502f9,917d87b5;no;8022a92f;00000000,ff61b1e7;no;501502f9,40100000,509502f9,40100000,50df8476,40100000"},
		{"3e4ccccd,3f19999a,3f333333,3dcccccd,3dcccccd,3e99999a,3e99999a,3f666666,3f333333,3f666666", "3eaaaaaa;3f7a6ab1,be54b1ed;3d3851eb,3e0a3d70;3f52938a,3e572c88;4041f305;bd08661e;3fa49249,bedb6db8;3f20ea0f,c019999a;3f70b7fc,3f4a039f,3fe790ba,3f86b118,403469f8,3fae3b36"},
		{"4131999a,bf333333,406ccccd,3e99999a,bf333333,3f666666,3f8ccccd,c0133333,3fa66666,3fd9999a", "bf471c72;3e19edcc,3f7d1754;bf3a2b3d,3fc2a190;c0052252,4097768e;406af763;3e676882;bfe27628,bf589d8b;412cda4e,403d65d6;40f2093b,40eb1658,c09cd28d,40d9f4c5,c1239080,c075cefe"},
		{"3fc00000,40100000,3f000000,c0400000,4aaaaaab,40e00000,3f333333,be99999a,3eaaaaab,3649539c", "49430c31;3f398b5c,bf3060d5;3f56bf95,beb811ee;bf0160dd,c06de13f;373f9b65;bdf7bf28;bf666667,c0066666;3fbfffa2,400ffff8;3fbffff3,400fffd1,3fbfffc8,400fffa4,3fbfff89,400fff84"},
	}
}

func TestPushesAgainstAnotherCalculation(t *testing.T) {
	for _, c := range pushCases() {
		n, _ := impl.ReadNumbers(c.arguments)
		p := impl.Particle{At: complex(n[0], n[1]), Speed: complex(n[2], n[3]), Charge: n[4], Mass: n[5]}
		field, magnet, tick := complex(n[6], n[7]), n[8], n[9]
		orbit, ok := impl.OrbitOf(p, field, magnet, tick, 3)
		got := []string{
			wordOfNumber(impl.PullOf(p)), wordOfComplex(impl.TurnOf(p, magnet, tick)), wordOfComplex(impl.KickOf(p, field, tick)),
			wordOfComplex(impl.PushSpeed(p, field, magnet, tick)), wordOfNumber(impl.RadiusOf(p, magnet)), wordOfNumber(impl.TurnsOf(p, magnet, tick)),
			wordOfComplex(impl.CrossSpeed(field, magnet)), wordOfComplex(impl.OrbitCentre(p, magnet)), wordOf(ok, partsOf(orbit...)...),
		}
		wantEqual(t, "the pushes of "+c.arguments, strings.Join(got, ";"), c.results)
	}
}

func TestPushExamples(t *testing.T) {
	p := impl.Particle{Charge: 1, Mass: 1}
	kick, ok := impl.KickOf(p, 2, 0.5)
	wantFiniteComplex(t, "the kick of the example", kick, ok, 0.5)
	speed, ok := impl.PushSpeed(p, 2, 0, 0.5)
	wantFiniteComplex(t, "the speed of the example", speed, ok, 1)
	turn, ok := impl.TurnOf(p, 2, 1)
	wantFiniteComplex(t, "the turn of the example", turn, ok, complex(0, -1))
}

func TestPullOf(t *testing.T) {
	least, huge := fromBits(1), float32(math.MaxFloat32)
	for _, c := range []struct{ charge, mass, want float32 }{
		{3, 2, 1.5},
		{-3, 2, -1.5},
		{1, 3, fromBits(0x3eaaaaab)},
		{0, 5, 0},
		{minusZero(), 5, minusZero()},
		{huge, 1, huge},
		{-huge, huge, -1},
		{least, least, 1},
		{least, 2, 0},
		{-least, 4, minusZero()},
		{3 * least, 2, 2 * least},
		{1, 0x1p127, 0x1p-127},
		{huge, 0.5, infinity()},
		{-1e30, 1e-30, infinity()},
		{1, least, infinity()},
		{0, least, 0},
	} {
		got, ok := impl.PullOf(impl.Particle{Charge: c.charge, Mass: c.mass})
		wantFiniteNumber(t, fmt.Sprintf("PullOf %v and %v", c.charge, c.mass), got, ok, c.want)
	}
}

// Half of the tick is 1, so that t is the magnet.
func TestTurnOf(t *testing.T) {
	least := fromBits(1)
	for _, c := range []struct {
		t    float32
		want complex64
	}{
		{1, complex(0, -1)},
		{0.5, complex(0.6, -0.8)},
		{2, complex(-0.6, -0.8)},
		{3, complex(-0.8, -0.6)},
		{0.25, complex(fromBits(0x3f61e1e2), fromBits(0xbef0f0f1))},
		{7, complex(-0.96, -0.28)},
		{1e10, complex(-1, -2e-10)},
		{16777216, complex(-1, -0x1p-23)},
		{1e20, complex(-1, -2e-20)},
		{0x1p127, complex(-1, -0x1p-126)},
		{math.MaxFloat32, complex(-1, -0x1p-127)},
		{0, complex(1, minusZero())},
		{least, complex(1, -2*least)},
		{1e-20, complex(1, -2e-20)},
	} {
		for _, q := range []struct{ charge, magnet, tick float32 }{{1, c.t, 2}, {-1, -c.t, 2}, {-1, c.t, -2}, {1, -c.t, -2}} {
			got, ok := impl.TurnOf(pulled(q.charge, 0), q.magnet, q.tick)
			wantFiniteComplex(t, fmt.Sprintf("TurnOf %v", q), got, ok, c.want)
		}
		for _, q := range []struct{ charge, magnet, tick float32 }{{-1, c.t, 2}, {1, -c.t, 2}, {1, c.t, -2}, {-1, -c.t, -2}} {
			got, ok := impl.TurnOf(pulled(q.charge, 0), q.magnet, q.tick)
			wantFiniteComplex(t, fmt.Sprintf("TurnOf %v, the other way", q), got, ok, complex(real(c.want), -imag(c.want)))
		}
	}
}

// The product of pull and magnet comes first, and then half of the tick.
func TestTurnOfMakesProductsInOrder(t *testing.T) {
	least, huge := fromBits(1), float32(math.MaxFloat32)
	inf, minus := infinity(), minusZero()
	for _, c := range []struct {
		charge, magnet, tick float32
		want                 complex64
	}{
		{1e30, 1e30, 1e-30, complex(inf, inf)},
		{1e30, 1e30, 0, complex(inf, inf)},
		{1e-30, 1e-30, huge, complex(1, minus)},
		{1e-30, 1e30, 2, complex(0, -1)},
		{2, 1e30, 1e-30, complex(0, -1)},
		{2, 1, least, complex(1, minus)},
		{2, 1, 3 * least, complex(1, -8*least)},
		{huge, huge, 0, complex(inf, inf)},
		{1, huge, 4, complex(inf, inf)},
		{1, -huge, 4, complex(inf, inf)},
		{1, huge, 2, complex(-1, -0x1p-127)},
		{1, 1, huge, complex(-1, -above(0x1p-126))},
	} {
		got, ok := impl.TurnOf(pulled(c.charge, 0), c.magnet, c.tick)
		wantFiniteComplex(t, fmt.Sprintf("TurnOf %v", c), got, ok, c.want)
	}
}

// A pull that is not finite makes a turn that is none, even without a magnet.
func TestPullsThatAreNotFinite(t *testing.T) {
	for _, magnet := range []float32{0, minusZero(), 1, -1e-30} {
		for _, tick := range []float32{0, minusZero(), 1, -1e-30} {
			p := impl.Particle{At: 1, Speed: 1, Charge: 1e30, Mass: 1e-30}
			wantFailures(t, []badCall{
				{"PullOf", call1(impl.PullOf(p))},
				{"TurnOf", call1(impl.TurnOf(p, magnet, tick))},
				{"KickOf", call1(impl.KickOf(p, 0, tick))},
				{"PushSpeed", call1(impl.PushSpeed(p, 0, magnet, tick))},
				{"TurnsOf", call1(impl.TurnsOf(p, magnet, tick))},
				{"RadiusOf", call1(impl.RadiusOf(p, magnet))},
				{"OrbitCentre", call1(impl.OrbitCentre(p, magnet))},
				{"OrbitOf", call1(impl.OrbitOf(p, 0, magnet, tick, 1))},
			})
		}
	}
}

func TestKickOf(t *testing.T) {
	least, huge, inf := fromBits(1), float32(math.MaxFloat32), infinity()
	for _, c := range []struct {
		charge      float32
		field       complex64
		tick        float32
		real, imagi float32
	}{
		{1, complex(2, -4), 0.5, 0.5, -1},
		{-1, complex(2, -4), 0.5, -0.5, 1},
		{3, complex(2, -4), -0.5, -1.5, 3},
		{-3, complex(2, -4), -0.5, 1.5, -3},
		{1, complex(0, minusZero()), 2, 0, minusZero()},
		{-1, complex(0, minusZero()), 2, minusZero(), 0},
		{0, complex(2, -4), 1, 0, minusZero()},
		{minusZero(), complex(2, -4), 1, minusZero(), 0},
		{1, complex(2, -4), 0, 0, minusZero()},
		{1, complex(2, -4), minusZero(), minusZero(), 0},
		// The product of pull and half of the tick comes first.
		{1e30, complex(1e30, 2e30), 2e-30, 1e30, 2e30},
		{1e30, complex(1e-30, 0), 1e30, inf, inf},
		{1e30, 0, 1e30, inf, inf},
		{1e-30, complex(1e30, 1e38), 1e-30, 0, 0},
		{1, complex(huge, -huge), least, 0, minusZero()},
		{2, complex(1, 2), 3 * least, 4 * least, 8 * least},
		{1, complex(huge, 1), 2, huge, 1},
		{1, complex(huge, 1), above(2), inf, inf},
		{1, complex(1, -huge), above(2), inf, inf},
		{1, complex(1, 2), huge, huge / 2, huge},
		{1, complex(1, 2), -huge, -huge / 2, -huge},
	} {
		got, ok := impl.KickOf(pulled(c.charge, complex(7, 8)), c.field, c.tick)
		wantFiniteComplex(t, fmt.Sprintf("KickOf %v", c), got, ok, complex(c.real, c.imagi))
	}
}

func TestPushSpeed(t *testing.T) {
	huge, inf := float32(math.MaxFloat32), infinity()
	for _, c := range []struct {
		speed, field complex64
		magnet, tick float32
		want         complex64
	}{
		{complex(3, -2), 0, 0, 1, complex(3, -2)},
		{complex(3, -2), complex(0.5, 1), 0, 1, complex(3.5, -1)},
		{complex(3, -2), complex(0.5, 1), 0, -1, complex(2.5, -3)},
		// The turn by -i comes between the two kicks.
		{complex(3, 2), 0, 2, 1, complex(2, -3)},
		{complex(3, 2), 0, -2, 1, complex(-2, 3)},
		{complex(3, 2), 0, 2, -1, complex(-2, 3)},
		{complex(3, 2), complex(8, 2), 2, 1, complex(3+4, -7+1)},
		{complex(3, 2), complex(8, 2), 2, -1, complex(-1-4, -1-1)},
		{5, 0, 4, 1, complex(-3, -4)},
		{complex(1, 2), 0, math.MaxFloat32, 2, complex(-1, -2)},
		{0, 0, 2, 1, 0},
		{complex(minusZero(), minusZero()), complex(minusZero(), minusZero()), 0, 1, complex(minusZero(), 0)},
		// The sums are rounded, each on its own.
		{16777216, 2, 0, 1, 16777216},
		{16777216, 4, 0, 1, 16777220},
		{1e30, 2, 0, 1, 1e30},
		{complex(huge, 0), complex(huge, 0), 0, 1e-10, complex(huge, 0)},
		{complex(huge, 0), complex(huge, 0), 0, 1, complex(inf, inf)},
		{complex(0, -huge), complex(0, -huge), 0, 1, complex(inf, inf)},
		{complex(huge, huge), 0, 1, 1, complex(inf, inf)},
		{complex(-huge, 0), complex(huge, 0), 0, 2, complex(huge, 0)},
	} {
		got, ok := impl.PushSpeed(pulled(1, c.speed), c.field, c.magnet, c.tick)
		wantFiniteComplex(t, fmt.Sprintf("PushSpeed %v", c), got, ok, c.want)
	}
}

func wantPushes(t *testing.T, p impl.Particle, field complex64, magnet, tick float32) {
	t.Helper()
	what := fmt.Sprintf("(%v, %v, %v, %v)", p, field, magnet, tick)
	pull, ok := impl.PullOf(p)
	wantFiniteNumber(t, "PullOf"+what, pull, ok, pullWanted(p))
	turn, ok := impl.TurnOf(p, magnet, tick)
	wantFiniteComplex(t, "TurnOf"+what, turn, ok, turnWanted(p, magnet, tick))
	kick, ok := impl.KickOf(p, field, tick)
	wantFiniteComplex(t, "KickOf"+what, kick, ok, kickWanted(p, field, tick))
	speed, ok := impl.PushSpeed(p, field, magnet, tick)
	wantFiniteComplex(t, "PushSpeed"+what, speed, ok, speedWanted(p, field, magnet, tick))
}

func TestPushesAgainstOtherNumbers(t *testing.T) {
	s := newSource()
	for range 20000 {
		p := s.particles(1)[0]
		wantPushes(t, p, s.place(), s.number(), s.number())
		p.Charge = s.finiteBits()
		wantPushes(t, p, complex(s.finiteBits(), s.number()), s.finiteBits(), s.finiteBits())
	}
}

func TestPushesOfEdgeNumbers(t *testing.T) {
	for _, magnet := range edgeNumbers() {
		for _, tick := range edgeNumbers() {
			for _, x := range edgeNumbers() {
				wantPushes(t, pulled(1, complex(x, 1)), complex(1, x), magnet, tick)
				wantPushes(t, pulled(x, complex(0, x)), complex(x, -1), magnet, tick)
			}
		}
	}
}

// Whatever t is, a turn has a length of nearly 1, and a speed keeps its own.
func TestTurnsKeepSpeeds(t *testing.T) {
	s := newSource()
	for range 20000 {
		p, magnet, tick := s.particles(1)[0], s.number(), s.number()
		turn, one := impl.TurnOf(p, magnet, tick)
		speed, two := impl.PushSpeed(p, 0, magnet, tick)
		wantEqual(t, "TurnOf and PushSpeed succeed", one && two, true)
		long, before := float64(impl.LongOf(turn)), float64(impl.LongOf(p.Speed))
		if math.Abs(long-1) > 2e-7 {
			t.Errorf("TurnOf(%v, %v, %v) has the length %v", p, magnet, tick, long)
		}
		if after := float64(impl.LongOf(speed)); math.Abs(after-before) > 3e-7*before {
			t.Errorf("PushSpeed(%v, 0, %v, %v): the speed %v becomes %v", p, magnet, tick, before, after)
		}
	}
}

// Half a turn and more: the greater t is, the nearer to -1 is the turn.
func TestGreatTurnsGoTowardsHalfATurn(t *testing.T) {
	for k := 0; k < 128; k++ {
		magnet := float32(math.Ldexp(1, k))
		for _, sign := range []float32{1, -1} {
			turn, ok := impl.TurnOf(pulled(sign, 0), magnet, 2)
			wantEqual(t, "TurnOf succeeds", ok, true)
			wantEqual(t, "the turn goes on", real(turn) <= 0 && imag(turn)*sign < 0, true)
			wantNearby(t, fmt.Sprintf("TurnOf 2 to the power of %d", k), turn, -1, 2*math.Ldexp(1, -k))
			turns, ok := impl.TurnsOf(pulled(sign, 0), magnet, 2)
			wantEqual(t, "TurnsOf succeeds", ok, true)
			wantEqual(t, "TurnsOf is a quarter or more", turns*sign <= -0.25 && turns*sign >= -0.5, true)
		}
	}
}

// A push by the opposite of a tick leads back to the speed.
func TestPushesAreUndone(t *testing.T) {
	s := newSource()
	for range 20000 {
		a := s.gentle()
		field, pushed := complex(a.x[0], a.y[0]), a.p
		pushed.Speed, _ = impl.PushSpeed(a.p, field, a.magnet, a.tick)
		back, ok := impl.PushSpeed(pushed, field, a.magnet, -a.tick)
		wantEqual(t, "PushSpeed succeeds", ok, true)
		wantNearby(t, fmt.Sprintf("the speed behind and before %v", a), back, a.p.Speed, 3e-6)
	}
}
