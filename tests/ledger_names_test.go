package tests

import (
	"math"
	"strings"
	"testing"

	"loop.example/g00400/impl"
)

// P10: every right account is read as it was written, and no two are written alike.
func TestP10Accounts(t *testing.T) {
	seen := map[string]impl.Acc{}
	count := 0
	for kind := impl.AccWallet; kind <= impl.AccOut; kind++ {
		for ch := 0; ch <= impl.MaxChan; ch++ {
			a := impl.Acc{Kind: kind, Ch: ch}
			if (ch == 0) != (kind < impl.AccLocal) {
				continue
			}
			count++
			s := impl.AccText(a)
			if other, ok := seen[s]; ok {
				t.Errorf("AccText is %q of both %v and %v", s, other, a)
			}
			seen[s] = a
			if got, ok := impl.TextAcc(s); !ok || got != a {
				t.Errorf("TextAcc(%q) = %v, %v; want %v, true", s, got, ok, a)
			}
		}
	}
	if count != 5+3*99 {
		t.Errorf("%d right accounts looked at", count)
	}
}

// P10: a text that no account has isn't read.
func TestP10TextsOfNoAccount(t *testing.T) {
	for _, s := range []string{
		"", " ", "0", "1", "wallet1", "wallet0", "equity1", "income2", "rebal3", "chain4", "wallet ", " wallet", "walle", "Wallet", "WALLET",
		"local", "local0", "local00", "local03", "local003", "local100", "local-1", "local-0", "local+1", "local 1", "local1 ", " local1", "Local1", "LOCAL1",
		"local1\n", "local1\x00", "local1.0", "local1e1", "local1_0", "local0x1", "local1local1", "locallocal1", "1local", "loca1",
		"in", "in0", "in-1", "in+1", "in100", "in01", "in1in1", "inc", "incom", "income1", "in come", "income ",
		"out", "out0", "out+1", "out-1", "out100", "out099", "outin1", "out1out",
		"local9999999999999999999999999", "local1125899906842624", "local18446744073709551617",
		"local１", "lócal1", "local1é", "\xff", "local\xff", strings.Repeat("local1", 1000), "local" + strings.Repeat("0", 100000) + "1", "local" + strings.Repeat("9", 100000),
		"walletequity", "wallet\nequity", "account", "kept",
	} {
		if a, ok := impl.TextAcc(s); ok || a != (impl.Acc{}) {
			t.Errorf("TextAcc(%.40q) = %v, %v; want nothing, false", s, a, ok)
		}
	}
}

// P10: what TextAcc reads at all is what AccText writes.
func TestP10NearTexts(t *testing.T) {
	tails := []string{"", "0", "1", "9", "01", "10", "99", "100", "-1", "+1", " 1", "1 ", "x", "s"}
	for _, head := range []string{"wallet", "equity", "income", "rebal", "chain", "local", "in", "out", "none", ""} {
		for _, tail := range tails {
			s := head + tail
			a, ok := impl.TextAcc(s)
			if ok && (impl.AccText(a) != s || !impl.AccOk(a)) || !ok && a != (impl.Acc{}) {
				t.Errorf("TextAcc(%q) = %v, %v, and its AccText is %q", s, a, ok, impl.AccText(a))
			}
		}
	}
}

// P13: AccText by name.
func TestP13AccText(t *testing.T) {
	for a, want := range map[impl.Acc]string{
		wallet: "wallet", equity: "equity", income: "income", rebal: "rebal", chain: "chain",
		local(1): "local1", local(3): "local3", local(10): "local10", local(99): "local99",
		underIn(1): "in1", underIn(42): "in42", underIn(99): "in99",
		underOut(1): "out1", underOut(90): "out90", underOut(99): "out99",
	} {
		if got := impl.AccText(a); got != want {
			t.Errorf("AccText(%v) = %q; want %q", a, got, want)
		}
		if got, ok := impl.TextAcc(want); !ok || got != a {
			t.Errorf("TextAcc(%q) = %v, %v; want %v, true", want, got, ok, a)
		}
	}
}

// P13: an account is right just where its kind is known and its channel fits the kind, and only then it has a text.
func TestP13AccOk(t *testing.T) {
	chs := []int{math.MinInt, -impl.MaxChan, -1, 0, 1, 2, 98, impl.MaxChan, impl.MaxChan + 1, 1<<32 + 1, math.MaxInt}
	for _, kind := range []int{math.MinInt, -8, -6, -1, 0, 1, 2, 3, 4, 5, 6, 7, 8, 9, 10, 16, 1<<32 + 1, 1<<32 + 6, math.MaxInt} {
		for _, ch := range chs {
			a := impl.Acc{Kind: kind, Ch: ch}
			want := kind >= 1 && kind <= 5 && ch == 0 || kind >= 6 && kind <= 8 && ch >= 1 && ch <= 99
			if got := impl.AccOk(a); got != want {
				t.Errorf("AccOk(%v) = %v", a, got)
			}
			if got := impl.AccText(a); (got != "") != want {
				t.Errorf("AccText(%v) = %q", a, got)
			}
		}
	}
}
